import Derived.Test.YtebheehjhnaklaaGreatDoorE3
import Derived.Test.YtebheehjhnaklaaGreatDoorC7
import Derived.Test.YtebheehjhnaklaaGreatDoorS6
namespace Go.Proofs.YtebheehjhnaklaaGreatDoor
open Go.RowKit
/-- what comes behind the digits ahead of the point -/
def restL (B T : List UInt8) (alt : Bool) : List UInt8 := if B = [] ∧ alt = false then T else 46 :: (B ++ T)
set_option maxRecDepth 100000 in
set_option maxHeartbeats 4000000 in
theorem rest_any (A B T : List UInt8) (alt : Bool) (w : World) (hB : B.length ≤ 200) (hT : T.length ≤ 200) :
    Calls Tryz.prog 95 #[.agg #[.string ⟨A.toArray⟩, .string ⟨B.toArray⟩, .string ⟨T.toArray⟩], .bool alt] w fun r w' => r = .returned (.string ⟨(restL B T alt).toArray⟩) ∧ Below w.heap.size w w' := by
  have c1 := cat_lN [46] B
  have c2 := cat_lN ([46] ++ B) T
  have q1 : ¬ (9223372036854775807 < 1 + B.length) := by omega
  have q2 : ¬ (9223372036854775807 < 1 + B.length + T.length) := by omega
  have q3 : ¬ (9223372036854775807 < B.length + 1) := by omega
  have q4 : ¬ (9223372036854775807 < B.length + 1 + T.length) := by omega
  have za := C3.new w (.string ⟨A.toArray⟩) (.string ⟨B.toArray⟩) (.string ⟨T.toArray⟩) 69
  have hB0 : Below w.heap.size w (w.alloc (.cells #[.string ⟨A.toArray⟩, .string ⟨B.toArray⟩, .string ⟨T.toArray⟩] 69)) := Below.alloc (Below.refl _ _) (Nat.le_refl _) _
  have zz := za
  obtain ⟨x0, x1, x2, x3, x4, x5, x6⟩ := zz
  by_cases hb : B = []
  · subst hb
    cases alt
    · rw [show restL [] T false = T from rfl]
      go_enter Tryz.func95, Tryz.ntmps95
      go_wp2
      all_goals go_ret
      all_goals exact ⟨rfl, hB0⟩
    · rw [show restL [] T true = 46 :: ([] ++ T) from rfl]
      go_enter Tryz.func95, Tryz.ntmps95
      go_wp2
      all_goals go_ret
      all_goals exact ⟨ret_strN (by first | rfl | (simp [cat_lN]; done) | (exact c2)), hB0⟩
  · have hbe : B.isEmpty = false := by cases B; exact absurd rfl hb; rfl
    have hbl : (B == []) = false := by simpa using hb
    rw [show restL B T alt = 46 :: (B ++ T) from if_neg (fun h => hb h.1)]
    go_enter Tryz.func95, Tryz.ntmps95
    go_wp2
    all_goals go_ret
    all_goals exact ⟨ret_strN (by first | rfl | exact c2 | (rw [c1, c2]; rfl)), hB0⟩
set_option maxRecDepth 100000 in
set_option maxHeartbeats 4000000 in
theorem text_any (A B T : List UInt8) (w : World) (hA : A.length ≤ 200) (hB : B.length ≤ 200) (hT : T.length ≤ 200) :
    Calls Tryz.prog 46 #[.agg #[.string ⟨A.toArray⟩, .string ⟨B.toArray⟩, .string ⟨T.toArray⟩]] w fun r w' => r = .returned (.string ⟨(A ++ restL B T false).toArray⟩) ∧ Below w.heap.size w w' := by
  have kr := fun W => rest_any A B T false W hB hT
  have hl : (restL B T false).length ≤ 401 := by unfold restL; split; omega; simp only [List.length_cons, List.length_append]; omega
  have hc := cat_lN A (restL B T false)
  generalize restL B T false = R at *
  have q1 : ¬ (9223372036854775807 < A.length + R.length) := by omega
  have za := C3.new w (.string ⟨A.toArray⟩) (.string ⟨B.toArray⟩) (.string ⟨T.toArray⟩) 69
  replace hB : Below w.heap.size w (w.alloc (.cells #[.string ⟨A.toArray⟩, .string ⟨B.toArray⟩, .string ⟨T.toArray⟩] 69)) := Below.alloc (Below.refl _ _) (Nat.le_refl _) _
  have KR := Lib.hid kr
  clear kr
  go_enter Tryz.func46, Tryz.ntmps46
  go_wp2
  obtain ⟨sza0, sza1, sza2⟩ := C3.since za
  refine wp_region_since (by kernel_rfl) (by kernel_rfl) ?_
  repeat (quiet_step ((go_at_call 95; with_reducible exact Calls.since_of (KR.out _))))
  refine wpQuiet_nil ?_
  intro w_ hw_
  obtain ⟨⟨w1, hb⟩, hw2⟩ := hw_
  have hw3 : w1 = w_ := hw2.symm
  clear hw2
  subst hw3
  clear sza0 sza1 sza2
  replace hB := hB.trans (hb.mono hB.size)
  have hz := hb.size
  replace za := C3.carry za hb
  have zz := za
  obtain ⟨x0, x1, x2, x3, x4, x5, x6⟩ := zz
  go_wp2
  all_goals go_ret
  all_goals exact ⟨ret_strN (by first | rfl | exact hc), hB⟩
theorem pointedS_any (B : List UInt8) (alt : Bool) (w : World) (hB : B.length ≤ 200) :
    Calls Tryz.prog 50 #[.string ⟨B.toArray⟩, .bool alt] w fun r w' => r = .returned (.string ⟨(restL B [] alt).toArray⟩) ∧ w = w' := by
  have c1 := cat_lN [46] B
  have q1 : ¬ (9223372036854775807 < 1 + B.length) := by omega
  have q3 : ¬ (9223372036854775807 < B.length + 1) := by omega
  by_cases hb : B = []
  · subst hb
    cases alt
    · rw [show restL [] [] false = [] from rfl]
      go_enter Tryz.func50, Tryz.ntmps50
      go_wp2
      all_goals go_ret
      all_goals exact ⟨rfl, rfl⟩
    · rw [show restL [] [] true = [46] from rfl]
      go_enter Tryz.func50, Tryz.ntmps50
      go_wp2
      all_goals go_ret
      all_goals exact ⟨ret_strN (by first | rfl | (simp [cat_lN]; done)), rfl⟩
  · have hbe : B.isEmpty = false := by cases B; exact absurd rfl hb; rfl
    have hbl : (B == []) = false := by simpa using hb
    rw [show restL B [] alt = 46 :: (B ++ []) from if_neg (fun h => hb h.1), List.append_nil]
    go_enter Tryz.func50, Tryz.ntmps50
    go_wp2
    all_goals go_ret
    all_goals exact ⟨ret_strN (by first | rfl | exact c1), rfl⟩
/-- the text of an amount with p places -/
def ftL (c e : Int) (p : Nat) : List UInt8 := fxA c e p ++ restL (fxB c e p) [] false
theorem fxAB_len {c e : Int} {p : Nat} (h : fxC c e p ≤ 999999999) (h4 : e + p ≤ 40) (h5 : p ≤ 29) : (fxA c e p).length ≤ 70 ∧ (fxB c e p).length ≤ 70 := by
  have := fxL_len h h4 h5
  unfold fxA fxB
  rw [List.length_take, List.length_drop]
  omega
theorem vld_b {n : Bool} {c e : Int} (h : Fd.vld ⟨n, c, e⟩ = true) : 0 ≤ c ∧ c ≤ 999999999 ∧ -12 ≤ e ∧ e ≤ 12 := bounds_of h
def fixW (n : Bool) (c e p : Int) : ByteArray := if Fd.vld ⟨n, c, e⟩ && inr p 0 9 then ⟨(ftL c e p.toNat).toArray⟩ else ⟨#[]⟩
end Go.Proofs.YtebheehjhnaklaaGreatDoor
namespace Go.Proofs.YtebheehjhnaklaaGreatDoor
open Go.RowKit
structure PlF (n : Bool) (c e : Int) (m : Nat) : Prop where
  pl : Fd.placesI ⟨n, c, e⟩ = (m : Int)
  mb : m ≤ 12
theorem pl_facts {n : Bool} {c e : Int} (hv : Fd.vld ⟨n, c, e⟩ = true) : ∃ m, PlF n c e m := by
  have h := Fd.nd_valid ⟨n, c, e⟩
  obtain ⟨_, _, h1, h2, _⟩ := h
  refine ⟨(Fd.placesI ⟨n, c, e⟩).toNat, ?_, ?_⟩
  · unfold Fd.placesI
    rw [hv, if_pos rfl]
    omega
  · unfold Fd.placesI
    rw [hv, if_pos rfl]
    omega
def plainW (n : Bool) (c e : Int) : ByteArray := if Fd.vld ⟨n, c, e⟩ then ⟨(ftL c e (Fd.placesI ⟨n, c, e⟩).toNat).toArray⟩ else ⟨#[]⟩
set_option maxRecDepth 100000 in
set_option maxHeartbeats 4000000 in
theorem plain_any (n : Bool) (c e : Int) (m : Nat) (w : World) (hv : Fd.vld ⟨n, c, e⟩ = true) (hm : PlF n c e m) (hT : PT w) :
    Calls Tryz.prog 74 #[.agg #[.bool n, .int .i64 c, .int .i64 e]] w fun r w' => r = .returned (.agg #[.string ⟨(fxA c e m).toArray⟩, .string ⟨(fxB c e m).toArray⟩, .string ⟨#[]⟩]) ∧ Below w.heap.size w w' := by
  obtain ⟨b0, b1, b2, b3⟩ := vld_b hv
  have hmb := hm.mb
  have kp := fun W => PlacesOf_any n c e W
  rw [hm.pl] at kp
  have kx := fun W (h : PT W) => fixed_any n c e m W b0 b1 (by omega) (by omega) (by omega) (by omega) h
  generalize fxA c e m = A at *
  generalize fxB c e m = B at *
  have zb := C3.up (C3.new w (.bool n) (.int .i64 c) (.int .i64 e) 24) (.cells #[.string ⟨#[]⟩, .string ⟨#[]⟩, .string ⟨#[]⟩] 69)
  have zc : C3 ((w.alloc (.cells #[.bool n, .int .i64 c, .int .i64 e] 24)).alloc (.cells #[.string ⟨#[]⟩, .string ⟨#[]⟩, .string ⟨#[]⟩] 69)) (w.heap.size + 1) (.string ⟨#[]⟩) (.string ⟨#[]⟩) (.string ⟨#[]⟩) := by
    have h := C3.new (w.alloc (.cells #[.bool n, .int .i64 c, .int .i64 e] 24)) (.string ⟨#[]⟩) (.string ⟨#[]⟩) (.string ⟨#[]⟩) 69
    rw [show (w.alloc (.cells #[.bool n, .int .i64 c, .int .i64 e] 24)).heap.size = w.heap.size + 1 by simp] at h
    exact h
  have hB : Below w.heap.size w ((w.alloc (.cells #[.bool n, .int .i64 c, .int .i64 e] 24)).alloc (.cells #[.string ⟨#[]⟩, .string ⟨#[]⟩, .string ⟨#[]⟩] 69)) := (Below.alloc (Below.refl _ _) (Nat.le_refl _) _).alloc (by simp) _
  have zz := zb
  obtain ⟨x0, x1, x2, x3, x4, x5, x6⟩ := zz
  have zz := zc
  obtain ⟨x0, x1, x2, x3, x4, x5, x6⟩ := zz
  have KP := Lib.hid kp; have KX := Lib.hid kx
  clear kp kx
  clear hv hm
  go_enter Tryz.func74, Tryz.ntmps74
  go_wp2
  go_region_with (first | (go_at_call 119; (with_reducible refine Calls.mono (KP.out _) ?_); rintro r w1 ⟨rfl, hb⟩; have hB : Below w.heap.size w w1 := (by refine Below.trans ?_ (hb.mono (by first | omega | (simp; done) | (simp <;> omega))); repeat (first | with_reducible exact Below.refl _ _ | with_reducible assumption | with_reducible refine Below.setCell ?_ (by first | omega | (simp; done) | (simp <;> omega)) _ | with_reducible refine below_drewN ?_ _ | with_reducible refine Below.drew ?_ | with_reducible refine Below.alloc ?_ (by first | omega | (simp; done) | (simp <;> omega)) _)); have hz := hb.size; (try simp at hz); (try (have zN := C3.carry (by first | with_reducible exact za | with_reducible exact za.up _ | with_reducible exact (za.up _).up _ | with_reducible exact C3.drew za | with_reducible exact (C3.drew za).up _) hb; clear za; have za := zN; clear zN; have zz := za; obtain ⟨x0, x1, x2, x3, x4, x5, x6⟩ := zz)); (try (have zN := C3.carry (by first | with_reducible exact zb | with_reducible exact zb.up _ | with_reducible exact (zb.up _).up _ | with_reducible exact C3.drew zb | with_reducible exact (C3.drew zb).up _) hb; clear zb; have zb := zN; clear zN; have zz := zb; obtain ⟨x0, x1, x2, x3, x4, x5, x6⟩ := zz)); (try (have zN := C3.carry (by first | with_reducible exact zc | with_reducible exact zc.up _ | with_reducible exact (zc.up _).up _ | with_reducible exact C3.drew zc | with_reducible exact (C3.drew zc).up _) hb; clear zc; have zc := zN; clear zN; have zz := zc; obtain ⟨x0, x1, x2, x3, x4, x5, x6⟩ := zz)); (try (have zN := C3.carry (by first | with_reducible exact zd | with_reducible exact zd.up _ | with_reducible exact (zd.up _).up _ | with_reducible exact C3.drew zd | with_reducible exact (C3.drew zd).up _) hb; clear zd; have zd := zN; clear zN; have zz := zd; obtain ⟨x0, x1, x2, x3, x4, x5, x6⟩ := zz)); (try (have zN := C3.carry (by first | with_reducible exact ze | with_reducible exact ze.up _ | with_reducible exact (ze.up _).up _ | with_reducible exact C3.drew ze | with_reducible exact (C3.drew ze).up _) hb; clear ze; have ze := zN; clear zN; have zz := ze; obtain ⟨x0, x1, x2, x3, x4, x5, x6⟩ := zz)); (try (have zN := C3.carry (by first | with_reducible exact zf | with_reducible exact zf.up _ | with_reducible exact (zf.up _).up _ | with_reducible exact C3.drew zf | with_reducible exact (C3.drew zf).up _) hb; clear zf; have zf := zN; clear zN; have zz := zf; obtain ⟨x0, x1, x2, x3, x4, x5, x6⟩ := zz)); (try (first | (have zT := za; clear zT; (first | (have zT := zb; clear zT; (first | (have zT := zc; clear zT; (first | (have zT := zd; clear zT; (first | (have zT := ze; clear zT; (first | (have zT := zf; clear zT; (skip)) | (have zf := C3.carry (C3.new _ _ _ _ _) hb; have zz := zf; obtain ⟨x0, x1, x2, x3, x4, x5, x6⟩ := zz))) | (have ze := C3.carry (C3.new _ _ _ _ _) hb; have zz := ze; obtain ⟨x0, x1, x2, x3, x4, x5, x6⟩ := zz))) | (have zd := C3.carry (C3.new _ _ _ _ _) hb; have zz := zd; obtain ⟨x0, x1, x2, x3, x4, x5, x6⟩ := zz))) | (have zc := C3.carry (C3.new _ _ _ _ _) hb; have zz := zc; obtain ⟨x0, x1, x2, x3, x4, x5, x6⟩ := zz))) | (have zb := C3.carry (C3.new _ _ _ _ _) hb; have zz := zb; obtain ⟨x0, x1, x2, x3, x4, x5, x6⟩ := zz))) | (have za := C3.carry (C3.new _ _ _ _ _) hb; have zz := za; obtain ⟨x0, x1, x2, x3, x4, x5, x6⟩ := zz)))) | (go_at_call 93; (with_reducible refine Calls.mono (KX.out _ (by first | exact hT.on hB | exact hT.on hB.drew | exact hT.on hB.drew.drew)) ?_); rintro r w1 ⟨rfl, hb⟩; have hB : Below w.heap.size w w1 := (by refine Below.trans ?_ (hb.mono (by first | omega | (simp; done) | (simp <;> omega))); repeat (first | with_reducible exact Below.refl _ _ | with_reducible assumption | with_reducible refine Below.setCell ?_ (by first | omega | (simp; done) | (simp <;> omega)) _ | with_reducible refine below_drewN ?_ _ | with_reducible refine Below.drew ?_ | with_reducible refine Below.alloc ?_ (by first | omega | (simp; done) | (simp <;> omega)) _)); have hz := hb.size; (try simp at hz); (try (have zN := C3.carry (by first | with_reducible exact za | with_reducible exact za.up _ | with_reducible exact (za.up _).up _ | with_reducible exact C3.drew za | with_reducible exact (C3.drew za).up _) hb; clear za; have za := zN; clear zN; have zz := za; obtain ⟨x0, x1, x2, x3, x4, x5, x6⟩ := zz)); (try (have zN := C3.carry (by first | with_reducible exact zb | with_reducible exact zb.up _ | with_reducible exact (zb.up _).up _ | with_reducible exact C3.drew zb | with_reducible exact (C3.drew zb).up _) hb; clear zb; have zb := zN; clear zN; have zz := zb; obtain ⟨x0, x1, x2, x3, x4, x5, x6⟩ := zz)); (try (have zN := C3.carry (by first | with_reducible exact zc | with_reducible exact zc.up _ | with_reducible exact (zc.up _).up _ | with_reducible exact C3.drew zc | with_reducible exact (C3.drew zc).up _) hb; clear zc; have zc := zN; clear zN; have zz := zc; obtain ⟨x0, x1, x2, x3, x4, x5, x6⟩ := zz)); (try (have zN := C3.carry (by first | with_reducible exact zd | with_reducible exact zd.up _ | with_reducible exact (zd.up _).up _ | with_reducible exact C3.drew zd | with_reducible exact (C3.drew zd).up _) hb; clear zd; have zd := zN; clear zN; have zz := zd; obtain ⟨x0, x1, x2, x3, x4, x5, x6⟩ := zz)); (try (have zN := C3.carry (by first | with_reducible exact ze | with_reducible exact ze.up _ | with_reducible exact (ze.up _).up _ | with_reducible exact C3.drew ze | with_reducible exact (C3.drew ze).up _) hb; clear ze; have ze := zN; clear zN; have zz := ze; obtain ⟨x0, x1, x2, x3, x4, x5, x6⟩ := zz)); (try (have zN := C3.carry (by first | with_reducible exact zf | with_reducible exact zf.up _ | with_reducible exact (zf.up _).up _ | with_reducible exact C3.drew zf | with_reducible exact (C3.drew zf).up _) hb; clear zf; have zf := zN; clear zN; have zz := zf; obtain ⟨x0, x1, x2, x3, x4, x5, x6⟩ := zz)); (try (first | (have zT := za; clear zT; (first | (have zT := zb; clear zT; (first | (have zT := zc; clear zT; (first | (have zT := zd; clear zT; (first | (have zT := ze; clear zT; (first | (have zT := zf; clear zT; (skip)) | (have zf := C3.carry (C3.new _ _ _ _ _) hb; have zz := zf; obtain ⟨x0, x1, x2, x3, x4, x5, x6⟩ := zz))) | (have ze := C3.carry (C3.new _ _ _ _ _) hb; have zz := ze; obtain ⟨x0, x1, x2, x3, x4, x5, x6⟩ := zz))) | (have zd := C3.carry (C3.new _ _ _ _ _) hb; have zz := zd; obtain ⟨x0, x1, x2, x3, x4, x5, x6⟩ := zz))) | (have zc := C3.carry (C3.new _ _ _ _ _) hb; have zz := zc; obtain ⟨x0, x1, x2, x3, x4, x5, x6⟩ := zz))) | (have zb := C3.carry (C3.new _ _ _ _ _) hb; have zz := zb; obtain ⟨x0, x1, x2, x3, x4, x5, x6⟩ := zz))) | (have za := C3.carry (C3.new _ _ _ _ _) hb; have zz := za; obtain ⟨x0, x1, x2, x3, x4, x5, x6⟩ := zz)))))
  all_goals go_wp2
  all_goals exact bodyPost_ret (v := .agg #[.string ⟨A.toArray⟩, .string ⟨B.toArray⟩, .string ⟨#[]⟩]) (by simp [results, Tryz.results74, go_sem, *]) rfl ⟨rfl, (by repeat (first | with_reducible exact Below.refl _ _ | with_reducible assumption | with_reducible refine Below.setCell ?_ (by first | omega | (simp; done) | (simp <;> omega)) _ | with_reducible refine below_drewN ?_ _ | with_reducible refine Below.drew ?_ | with_reducible refine Below.alloc ?_ (by first | omega | (simp; done) | (simp <;> omega)) _))⟩
set_option maxRecDepth 100000 in
set_option maxHeartbeats 4000000 in
theorem PlainText_any (n : Bool) (c e : Int) (w : World) (hT : PT w) :
    Calls Tryz.prog 23 #[.agg #[.bool n, .int .i64 c, .int .i64 e]] w fun r w' => r = .returned (.string (plainW n c e)) ∧ Below w.heap.size w w' := by
  have kv := fun W => ValidDec_any n c e W
  have zb := C3.new w (.bool n) (.int .i64 c) (.int .i64 e) 24
  have hB : Below w.heap.size w (w.alloc (.cells #[.bool n, .int .i64 c, .int .i64 e] 24)) := Below.alloc (Below.refl _ _) (Nat.le_refl _) _
  have zz := zb
  obtain ⟨x0, x1, x2, x3, x4, x5, x6⟩ := zz
  cases hv : Fd.vld ⟨n, c, e⟩
  · rw [show plainW n c e = ⟨#[]⟩ by unfold plainW; rw [hv]; rfl]
    rw [hv] at kv
    have KV := Lib.hid kv
    clear kv
    clear hT hv
    go_enter Tryz.func23, Tryz.ntmps23
    go_wp2_with (first | (go_at_call 43; (with_reducible refine Calls.mono (KV.out _) ?_); rintro r w1 ⟨rfl, hb⟩; replace hB := hB.trans (hb.mono hB.size); have hz := hB.size; replace zb := C3.carry zb hb; have zz := zb; obtain ⟨x0, x1, x2, x3, x4, x5, x6⟩ := zz))
    all_goals go_ret
    all_goals exact ⟨rfl, hB⟩
  · obtain ⟨b0, b1, b2, b3⟩ := vld_b hv
    obtain ⟨m, hm⟩ := pl_facts hv
    have hmb := hm.mb
    rw [show plainW n c e = ⟨(ftL c e m).toArray⟩ by unfold plainW; rw [hv, hm.pl]; rfl]
    have kx := fun W (h : PT W) => plain_any n c e m W hv hm h
    rw [hv] at kv
    have F := fx_facts n (c := c) (e := e) (p := m) b0 b1 (by omega) (by omega) (by omega) (by omega)
    have hl := fxAB_len F.cb (by omega) (by omega)
    have kt := fun W => text_any (fxA c e m) (fxB c e m) [] W (by omega) (by omega) (by simp)
    rw [show fxA c e m ++ restL (fxB c e m) [] false = ftL c e m from rfl] at kt
    generalize ftL c e m = R at *
    generalize fxA c e m = A at *
    generalize fxB c e m = B at *
    have KV := Lib.hid kv; have KX := Lib.hid kx; have KT := Lib.hid kt
    clear kv kx kt
    clear F hl hv hm
    go_enter Tryz.func23, Tryz.ntmps23
    go_wp2_with (first | (go_at_call 43; (with_reducible refine Calls.mono (KV.out _) ?_); rintro r w1 ⟨rfl, hb⟩; replace hB := hB.trans (hb.mono hB.size); have hz := hB.size; replace zb := C3.carry zb hb; have zz := zb; obtain ⟨x0, x1, x2, x3, x4, x5, x6⟩ := zz) | (go_at_call 74; (with_reducible refine Calls.mono (KX.out _ (hT.on hB)) ?_); rintro r w1 ⟨rfl, hb⟩; replace hB := hB.trans (hb.mono hB.size); have hz := hB.size; replace zb := C3.carry zb hb; have zz := zb; obtain ⟨x0, x1, x2, x3, x4, x5, x6⟩ := zz) | (go_at_call 46; (with_reducible refine Calls.mono (KT.out _) ?_); rintro r w1 ⟨rfl, hb⟩; replace hB := hB.trans (hb.mono hB.size); have hz := hB.size; replace zb := C3.carry zb hb; have zz := zb; obtain ⟨x0, x1, x2, x3, x4, x5, x6⟩ := zz))
    all_goals go_ret
    all_goals exact ⟨rfl, hB⟩
end Go.Proofs.YtebheehjhnaklaaGreatDoor
