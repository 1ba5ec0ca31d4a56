import Derived.Test.YtbkdjldimmhbjaaDoorW3B
namespace Go.Proofs.YtbkdjldimmhbjaaDoor
open Go.RowKit

set_option maxRecDepth 100000 in
set_option maxHeartbeats 16000000 in
theorem SpecText_ok (F T : List UInt8) (al si : Int) (alt ze : Bool) (wi gr pr : Int) (w : World) (V : VS ⟨F.toArray⟩ al si wi gr pr ⟨T.toArray⟩) (k1 : ∀ W, Calls Tryd.prog 16 #[.agg #[.string ⟨F.toArray⟩, .int .i64 al, .int .i64 si, .bool alt, .bool ze, .int .i64 wi, .int .i64 gr, .int .i64 pr, .string ⟨T.toArray⟩]] W fun r w' => r = .returned (.bool true) ∧ Below W.heap.size W w') :
    Calls Tryd.prog 15 #[.agg #[.string ⟨F.toArray⟩, .int .i64 al, .int .i64 si, .bool alt, .bool ze, .int .i64 wi, .int .i64 gr, .int .i64 pr, .string ⟨T.toArray⟩]] w fun r w' => r = .returned (.string ⟨(spL F al si alt ze wi gr pr T).toArray⟩) ∧ Below w.heap.size w w' := by
  have K1 := Lib.hid k1
  clear k1
  have hF : F.length ≤ 1 := size_fill V.fill
  have hT : T.length ≤ 1 := size_type V.type
  have kA := fun W => mB (markAt_4 al V.al0 V.al4 W)
  have kS := fun W => mB (markAt_3 si V.si0 V.si3 W)
  have kG := fun W => mB (markAt_2 gr V.gr0 V.gr2 W)
  have lA := mk_len [60, 62, 94, 61] al
  have lS := mk_len [45, 43, 32] si
  have lG := mk_len [44, 95] gr
  have hw0 := V.wi0; have hw1 := V.wi30; have hp0 := V.pr0; have hp1 := V.pr9
  unfold spL
  generalize mk [60, 62, 94, 61] al = A at *
  generalize mk [45, 43, 32] si = S at *
  generalize mk [44, 95] gr = G at *
  have c1 : ¬ (9223372036854775807 < F.length + A.length) := by omega
  have c2 : ¬ (9223372036854775807 < F.length + A.length + S.length) := by omega
  have KA := Lib.hid kA; have KS := Lib.hid kS; have KG := Lib.hid kG
  clear kA kS kG V
  obtain ⟨m, rfl⟩ := Int.eq_ofNat_of_zero_le hw0
  have lM := dec2_len m
  have kM := fun W => Itoa_two m (by omega) W
  generalize hDM : dec2 m = M at *
  have KM := Lib.hid kM
  clear kM
  by_cases hm : m = 0
  · subst hm
    by_cases hp : pr = -1
    · subst hp
      cases alt <;> cases ze
      · have za := C9.new w (.string ⟨F.toArray⟩) (.int .i64 al) (.int .i64 si) (.bool false) (.bool false) (.int .i64 0) (.int .i64 gr) (.int .i64 (-1)) (.string ⟨T.toArray⟩) 25
        have hB : Below w.heap.size w (w.alloc (.cells #[.string ⟨F.toArray⟩, .int .i64 al, .int .i64 si, .bool false, .bool false, .int .i64 0, .int .i64 gr, .int .i64 (-1), .string ⟨T.toArray⟩] 25)) := (Below.refl _ _).alloc (Nat.le_refl _) _
        have zz := za
        obtain ⟨x0, x1, x2, x3, x4, x5, x6, x7, x8, x9, xl⟩ := zz
        go_enter Tryd.func15, Tryd.ntmps15
        go_wp2_with (first | (go_at_call 16; (with_reducible refine Calls.mono (K1.out _) ?_); rintro r w1 ⟨rfl, hb⟩; replace hB := hB.trans (hb.mono hB.size); replace za := za.carry hb; have zz := za; obtain ⟨x0, x1, x2, x3, x4, x5, x6, x7, x8, x9, xl⟩ := zz))
        obtain ⟨sza0, sza1, sza2, sza3, sza4, sza5, sza6, sza7, sza8⟩ := C9.since za
        refine wp_region_since (by kernel_rfl) (by kernel_rfl) ?_
        repeat (quiet_step (first | (go_at_call 31; with_reducible exact Calls.since_of (KA.out _)) | (go_at_call 31; with_reducible exact Calls.since_of (KS.out _))))
        refine wpQuiet_nil ?_
        intro w_ hw_
        obtain ⟨⟨w1, hb⟩, hw2⟩ := hw_
        have hw3 : w1 = w_ := hw2.symm
        clear hw2
        subst hw3
        clear sza0 sza1 sza2 sza3 sza4 sza5 sza6 sza7 sza8
        replace hB := hB.trans (hb.mono hB.size)
        have hz := hb.size
        replace za := C9.carry za hb
        have zz := za
        obtain ⟨x0, x1, x2, x3, x4, x5, x6, x7, x8, x9, xl⟩ := zz
        go_wp2_with (first | (go_at_call 16; (with_reducible refine Calls.mono (K1.out _) ?_); rintro r w1 ⟨rfl, hb⟩; replace hB := hB.trans (hb.mono hB.size); replace za := za.carry hb; have zz := za; obtain ⟨x0, x1, x2, x3, x4, x5, x6, x7, x8, x9, xl⟩ := zz) | (go_at_call 31; (with_reducible refine Calls.mono (KG.out _) ?_); rintro r w1 ⟨rfl, hb⟩; replace hB := hB.trans (hb.mono hB.size); replace za := za.carry hb; have zz := za; obtain ⟨x0, x1, x2, x3, x4, x5, x6, x7, x8, x9, xl⟩ := zz))
        go_ret
        exact ⟨ret_str (by first | (simp [cat_l, *]; done) | (simp [cat_l, List.append_assoc, *]; omega)), hB⟩
      · have za := C9.new w (.string ⟨F.toArray⟩) (.int .i64 al) (.int .i64 si) (.bool false) (.bool true) (.int .i64 0) (.int .i64 gr) (.int .i64 (-1)) (.string ⟨T.toArray⟩) 25
        have hB : Below w.heap.size w (w.alloc (.cells #[.string ⟨F.toArray⟩, .int .i64 al, .int .i64 si, .bool false, .bool true, .int .i64 0, .int .i64 gr, .int .i64 (-1), .string ⟨T.toArray⟩] 25)) := (Below.refl _ _).alloc (Nat.le_refl _) _
        have zz := za
        obtain ⟨x0, x1, x2, x3, x4, x5, x6, x7, x8, x9, xl⟩ := zz
        go_enter Tryd.func15, Tryd.ntmps15
        go_wp2_with (first | (go_at_call 16; (with_reducible refine Calls.mono (K1.out _) ?_); rintro r w1 ⟨rfl, hb⟩; replace hB := hB.trans (hb.mono hB.size); replace za := za.carry hb; have zz := za; obtain ⟨x0, x1, x2, x3, x4, x5, x6, x7, x8, x9, xl⟩ := zz))
        obtain ⟨sza0, sza1, sza2, sza3, sza4, sza5, sza6, sza7, sza8⟩ := C9.since za
        refine wp_region_since (by kernel_rfl) (by kernel_rfl) ?_
        repeat (quiet_step (first | (go_at_call 31; with_reducible exact Calls.since_of (KA.out _)) | (go_at_call 31; with_reducible exact Calls.since_of (KS.out _))))
        refine wpQuiet_nil ?_
        intro w_ hw_
        obtain ⟨⟨w1, hb⟩, hw2⟩ := hw_
        have hw3 : w1 = w_ := hw2.symm
        clear hw2
        subst hw3
        clear sza0 sza1 sza2 sza3 sza4 sza5 sza6 sza7 sza8
        replace hB := hB.trans (hb.mono hB.size)
        have hz := hb.size
        replace za := C9.carry za hb
        have zz := za
        obtain ⟨x0, x1, x2, x3, x4, x5, x6, x7, x8, x9, xl⟩ := zz
        go_wp2_with (first | (go_at_call 16; (with_reducible refine Calls.mono (K1.out _) ?_); rintro r w1 ⟨rfl, hb⟩; replace hB := hB.trans (hb.mono hB.size); replace za := za.carry hb; have zz := za; obtain ⟨x0, x1, x2, x3, x4, x5, x6, x7, x8, x9, xl⟩ := zz) | (go_at_call 31; (with_reducible refine Calls.mono (KG.out _) ?_); rintro r w1 ⟨rfl, hb⟩; replace hB := hB.trans (hb.mono hB.size); replace za := za.carry hb; have zz := za; obtain ⟨x0, x1, x2, x3, x4, x5, x6, x7, x8, x9, xl⟩ := zz))
        go_ret
        exact ⟨ret_str (by first | (simp [cat_l, *]; done) | (simp [cat_l, List.append_assoc, *]; omega)), hB⟩
      · have za := C9.new w (.string ⟨F.toArray⟩) (.int .i64 al) (.int .i64 si) (.bool true) (.bool false) (.int .i64 0) (.int .i64 gr) (.int .i64 (-1)) (.string ⟨T.toArray⟩) 25
        have hB : Below w.heap.size w (w.alloc (.cells #[.string ⟨F.toArray⟩, .int .i64 al, .int .i64 si, .bool true, .bool false, .int .i64 0, .int .i64 gr, .int .i64 (-1), .string ⟨T.toArray⟩] 25)) := (Below.refl _ _).alloc (Nat.le_refl _) _
        have zz := za
        obtain ⟨x0, x1, x2, x3, x4, x5, x6, x7, x8, x9, xl⟩ := zz
        go_enter Tryd.func15, Tryd.ntmps15
        go_wp2_with (first | (go_at_call 16; (with_reducible refine Calls.mono (K1.out _) ?_); rintro r w1 ⟨rfl, hb⟩; replace hB := hB.trans (hb.mono hB.size); replace za := za.carry hb; have zz := za; obtain ⟨x0, x1, x2, x3, x4, x5, x6, x7, x8, x9, xl⟩ := zz))
        obtain ⟨sza0, sza1, sza2, sza3, sza4, sza5, sza6, sza7, sza8⟩ := C9.since za
        refine wp_region_since (by kernel_rfl) (by kernel_rfl) ?_
        repeat (quiet_step (first | (go_at_call 31; with_reducible exact Calls.since_of (KA.out _)) | (go_at_call 31; with_reducible exact Calls.since_of (KS.out _))))
        refine wpQuiet_nil ?_
        intro w_ hw_
        obtain ⟨⟨w1, hb⟩, hw2⟩ := hw_
        have hw3 : w1 = w_ := hw2.symm
        clear hw2
        subst hw3
        clear sza0 sza1 sza2 sza3 sza4 sza5 sza6 sza7 sza8
        replace hB := hB.trans (hb.mono hB.size)
        have hz := hb.size
        replace za := C9.carry za hb
        have zz := za
        obtain ⟨x0, x1, x2, x3, x4, x5, x6, x7, x8, x9, xl⟩ := zz
        go_wp2_with (first | (go_at_call 16; (with_reducible refine Calls.mono (K1.out _) ?_); rintro r w1 ⟨rfl, hb⟩; replace hB := hB.trans (hb.mono hB.size); replace za := za.carry hb; have zz := za; obtain ⟨x0, x1, x2, x3, x4, x5, x6, x7, x8, x9, xl⟩ := zz) | (go_at_call 31; (with_reducible refine Calls.mono (KG.out _) ?_); rintro r w1 ⟨rfl, hb⟩; replace hB := hB.trans (hb.mono hB.size); replace za := za.carry hb; have zz := za; obtain ⟨x0, x1, x2, x3, x4, x5, x6, x7, x8, x9, xl⟩ := zz))
        go_ret
        exact ⟨ret_str (by first | (simp [cat_l, *]; done) | (simp [cat_l, List.append_assoc, *]; omega)), hB⟩
      · have za := C9.new w (.string ⟨F.toArray⟩) (.int .i64 al) (.int .i64 si) (.bool true) (.bool true) (.int .i64 0) (.int .i64 gr) (.int .i64 (-1)) (.string ⟨T.toArray⟩) 25
        have hB : Below w.heap.size w (w.alloc (.cells #[.string ⟨F.toArray⟩, .int .i64 al, .int .i64 si, .bool true, .bool true, .int .i64 0, .int .i64 gr, .int .i64 (-1), .string ⟨T.toArray⟩] 25)) := (Below.refl _ _).alloc (Nat.le_refl _) _
        have zz := za
        obtain ⟨x0, x1, x2, x3, x4, x5, x6, x7, x8, x9, xl⟩ := zz
        go_enter Tryd.func15, Tryd.ntmps15
        go_wp2_with (first | (go_at_call 16; (with_reducible refine Calls.mono (K1.out _) ?_); rintro r w1 ⟨rfl, hb⟩; replace hB := hB.trans (hb.mono hB.size); replace za := za.carry hb; have zz := za; obtain ⟨x0, x1, x2, x3, x4, x5, x6, x7, x8, x9, xl⟩ := zz))
        obtain ⟨sza0, sza1, sza2, sza3, sza4, sza5, sza6, sza7, sza8⟩ := C9.since za
        refine wp_region_since (by kernel_rfl) (by kernel_rfl) ?_
        repeat (quiet_step (first | (go_at_call 31; with_reducible exact Calls.since_of (KA.out _)) | (go_at_call 31; with_reducible exact Calls.since_of (KS.out _))))
        refine wpQuiet_nil ?_
        intro w_ hw_
        obtain ⟨⟨w1, hb⟩, hw2⟩ := hw_
        have hw3 : w1 = w_ := hw2.symm
        clear hw2
        subst hw3
        clear sza0 sza1 sza2 sza3 sza4 sza5 sza6 sza7 sza8
        replace hB := hB.trans (hb.mono hB.size)
        have hz := hb.size
        replace za := C9.carry za hb
        have zz := za
        obtain ⟨x0, x1, x2, x3, x4, x5, x6, x7, x8, x9, xl⟩ := zz
        go_wp2_with (first | (go_at_call 16; (with_reducible refine Calls.mono (K1.out _) ?_); rintro r w1 ⟨rfl, hb⟩; replace hB := hB.trans (hb.mono hB.size); replace za := za.carry hb; have zz := za; obtain ⟨x0, x1, x2, x3, x4, x5, x6, x7, x8, x9, xl⟩ := zz) | (go_at_call 31; (with_reducible refine Calls.mono (KG.out _) ?_); rintro r w1 ⟨rfl, hb⟩; replace hB := hB.trans (hb.mono hB.size); replace za := za.carry hb; have zz := za; obtain ⟨x0, x1, x2, x3, x4, x5, x6, x7, x8, x9, xl⟩ := zz))
        go_ret
        exact ⟨ret_str (by first | (simp [cat_l, *]; done) | (simp [cat_l, List.append_assoc, *]; omega)), hB⟩
    obtain ⟨q, rfl⟩ := Int.eq_ofNat_of_zero_le (show 0 ≤ pr by omega)
    have lQ := dec2_len q
    have kQ := fun W => Itoa_two q (by omega) W
    generalize hDQ : dec2 q = QQ at *
    have KQ := Lib.hid kQ
    clear kQ
    have j1 : (((q : Nat) : Int) == -1) = false := by first | (simp; done) | (simp; omega)
    have j2 : ¬ ((q : Nat) : Int) = -1 := by omega
    have j3 : (0 : Int) ≤ (q : Nat) := by omega
    cases alt <;> cases ze
    · have za := C9.new w (.string ⟨F.toArray⟩) (.int .i64 al) (.int .i64 si) (.bool false) (.bool false) (.int .i64 0) (.int .i64 gr) (.int .i64 q) (.string ⟨T.toArray⟩) 25
      have hB : Below w.heap.size w (w.alloc (.cells #[.string ⟨F.toArray⟩, .int .i64 al, .int .i64 si, .bool false, .bool false, .int .i64 0, .int .i64 gr, .int .i64 q, .string ⟨T.toArray⟩] 25)) := (Below.refl _ _).alloc (Nat.le_refl _) _
      have zz := za
      obtain ⟨x0, x1, x2, x3, x4, x5, x6, x7, x8, x9, xl⟩ := zz
      go_enter Tryd.func15, Tryd.ntmps15
      go_wp2_with (first | (go_at_call 16; (with_reducible refine Calls.mono (K1.out _) ?_); rintro r w1 ⟨rfl, hb⟩; replace hB := hB.trans (hb.mono hB.size); replace za := za.carry hb; have zz := za; obtain ⟨x0, x1, x2, x3, x4, x5, x6, x7, x8, x9, xl⟩ := zz))
      obtain ⟨sza0, sza1, sza2, sza3, sza4, sza5, sza6, sza7, sza8⟩ := C9.since za
      refine wp_region_since (by kernel_rfl) (by kernel_rfl) ?_
      repeat (quiet_step (first | (go_at_call 31; with_reducible exact Calls.since_of (KA.out _)) | (go_at_call 31; with_reducible exact Calls.since_of (KS.out _))))
      refine wpQuiet_nil ?_
      intro w_ hw_
      obtain ⟨⟨w1, hb⟩, hw2⟩ := hw_
      have hw3 : w1 = w_ := hw2.symm
      clear hw2
      subst hw3
      clear sza0 sza1 sza2 sza3 sza4 sza5 sza6 sza7 sza8
      replace hB := hB.trans (hb.mono hB.size)
      have hz := hb.size
      replace za := C9.carry za hb
      have zz := za
      obtain ⟨x0, x1, x2, x3, x4, x5, x6, x7, x8, x9, xl⟩ := zz
      go_wp2_with (first | (go_at_call 16; (with_reducible refine Calls.mono (K1.out _) ?_); rintro r w1 ⟨rfl, hb⟩; replace hB := hB.trans (hb.mono hB.size); replace za := za.carry hb; have zz := za; obtain ⟨x0, x1, x2, x3, x4, x5, x6, x7, x8, x9, xl⟩ := zz) | (go_at_call 31; (with_reducible refine Calls.mono (KG.out _) ?_); rintro r w1 ⟨rfl, hb⟩; replace hB := hB.trans (hb.mono hB.size); replace za := za.carry hb; have zz := za; obtain ⟨x0, x1, x2, x3, x4, x5, x6, x7, x8, x9, xl⟩ := zz) | (go_at_call 37; (with_reducible refine Calls.mono (KQ.out _) ?_); rintro r w1 ⟨rfl, hb⟩; replace hB := hB.trans (hb.mono hB.size); replace za := za.carry hb; have zz := za; obtain ⟨x0, x1, x2, x3, x4, x5, x6, x7, x8, x9, xl⟩ := zz))
      go_ret
      exact ⟨ret_str (by first | (simp [cat_l, *]; done) | (simp [cat_l, List.append_assoc, *]; omega)), hB⟩
    · have za := C9.new w (.string ⟨F.toArray⟩) (.int .i64 al) (.int .i64 si) (.bool false) (.bool true) (.int .i64 0) (.int .i64 gr) (.int .i64 q) (.string ⟨T.toArray⟩) 25
      have hB : Below w.heap.size w (w.alloc (.cells #[.string ⟨F.toArray⟩, .int .i64 al, .int .i64 si, .bool false, .bool true, .int .i64 0, .int .i64 gr, .int .i64 q, .string ⟨T.toArray⟩] 25)) := (Below.refl _ _).alloc (Nat.le_refl _) _
      have zz := za
      obtain ⟨x0, x1, x2, x3, x4, x5, x6, x7, x8, x9, xl⟩ := zz
      go_enter Tryd.func15, Tryd.ntmps15
      go_wp2_with (first | (go_at_call 16; (with_reducible refine Calls.mono (K1.out _) ?_); rintro r w1 ⟨rfl, hb⟩; replace hB := hB.trans (hb.mono hB.size); replace za := za.carry hb; have zz := za; obtain ⟨x0, x1, x2, x3, x4, x5, x6, x7, x8, x9, xl⟩ := zz))
      obtain ⟨sza0, sza1, sza2, sza3, sza4, sza5, sza6, sza7, sza8⟩ := C9.since za
      refine wp_region_since (by kernel_rfl) (by kernel_rfl) ?_
      repeat (quiet_step (first | (go_at_call 31; with_reducible exact Calls.since_of (KA.out _)) | (go_at_call 31; with_reducible exact Calls.since_of (KS.out _))))
      refine wpQuiet_nil ?_
      intro w_ hw_
      obtain ⟨⟨w1, hb⟩, hw2⟩ := hw_
      have hw3 : w1 = w_ := hw2.symm
      clear hw2
      subst hw3
      clear sza0 sza1 sza2 sza3 sza4 sza5 sza6 sza7 sza8
      replace hB := hB.trans (hb.mono hB.size)
      have hz := hb.size
      replace za := C9.carry za hb
      have zz := za
      obtain ⟨x0, x1, x2, x3, x4, x5, x6, x7, x8, x9, xl⟩ := zz
      go_wp2_with (first | (go_at_call 16; (with_reducible refine Calls.mono (K1.out _) ?_); rintro r w1 ⟨rfl, hb⟩; replace hB := hB.trans (hb.mono hB.size); replace za := za.carry hb; have zz := za; obtain ⟨x0, x1, x2, x3, x4, x5, x6, x7, x8, x9, xl⟩ := zz) | (go_at_call 31; (with_reducible refine Calls.mono (KG.out _) ?_); rintro r w1 ⟨rfl, hb⟩; replace hB := hB.trans (hb.mono hB.size); replace za := za.carry hb; have zz := za; obtain ⟨x0, x1, x2, x3, x4, x5, x6, x7, x8, x9, xl⟩ := zz) | (go_at_call 37; (with_reducible refine Calls.mono (KQ.out _) ?_); rintro r w1 ⟨rfl, hb⟩; replace hB := hB.trans (hb.mono hB.size); replace za := za.carry hb; have zz := za; obtain ⟨x0, x1, x2, x3, x4, x5, x6, x7, x8, x9, xl⟩ := zz))
      go_ret
      exact ⟨ret_str (by first | (simp [cat_l, *]; done) | (simp [cat_l, List.append_assoc, *]; omega)), hB⟩
    · have za := C9.new w (.string ⟨F.toArray⟩) (.int .i64 al) (.int .i64 si) (.bool true) (.bool false) (.int .i64 0) (.int .i64 gr) (.int .i64 q) (.string ⟨T.toArray⟩) 25
      have hB : Below w.heap.size w (w.alloc (.cells #[.string ⟨F.toArray⟩, .int .i64 al, .int .i64 si, .bool true, .bool false, .int .i64 0, .int .i64 gr, .int .i64 q, .string ⟨T.toArray⟩] 25)) := (Below.refl _ _).alloc (Nat.le_refl _) _
      have zz := za
      obtain ⟨x0, x1, x2, x3, x4, x5, x6, x7, x8, x9, xl⟩ := zz
      go_enter Tryd.func15, Tryd.ntmps15
      go_wp2_with (first | (go_at_call 16; (with_reducible refine Calls.mono (K1.out _) ?_); rintro r w1 ⟨rfl, hb⟩; replace hB := hB.trans (hb.mono hB.size); replace za := za.carry hb; have zz := za; obtain ⟨x0, x1, x2, x3, x4, x5, x6, x7, x8, x9, xl⟩ := zz))
      obtain ⟨sza0, sza1, sza2, sza3, sza4, sza5, sza6, sza7, sza8⟩ := C9.since za
      refine wp_region_since (by kernel_rfl) (by kernel_rfl) ?_
      repeat (quiet_step (first | (go_at_call 31; with_reducible exact Calls.since_of (KA.out _)) | (go_at_call 31; with_reducible exact Calls.since_of (KS.out _))))
      refine wpQuiet_nil ?_
      intro w_ hw_
      obtain ⟨⟨w1, hb⟩, hw2⟩ := hw_
      have hw3 : w1 = w_ := hw2.symm
      clear hw2
      subst hw3
      clear sza0 sza1 sza2 sza3 sza4 sza5 sza6 sza7 sza8
      replace hB := hB.trans (hb.mono hB.size)
      have hz := hb.size
      replace za := C9.carry za hb
      have zz := za
      obtain ⟨x0, x1, x2, x3, x4, x5, x6, x7, x8, x9, xl⟩ := zz
      go_wp2_with (first | (go_at_call 16; (with_reducible refine Calls.mono (K1.out _) ?_); rintro r w1 ⟨rfl, hb⟩; replace hB := hB.trans (hb.mono hB.size); replace za := za.carry hb; have zz := za; obtain ⟨x0, x1, x2, x3, x4, x5, x6, x7, x8, x9, xl⟩ := zz) | (go_at_call 31; (with_reducible refine Calls.mono (KG.out _) ?_); rintro r w1 ⟨rfl, hb⟩; replace hB := hB.trans (hb.mono hB.size); replace za := za.carry hb; have zz := za; obtain ⟨x0, x1, x2, x3, x4, x5, x6, x7, x8, x9, xl⟩ := zz) | (go_at_call 37; (with_reducible refine Calls.mono (KQ.out _) ?_); rintro r w1 ⟨rfl, hb⟩; replace hB := hB.trans (hb.mono hB.size); replace za := za.carry hb; have zz := za; obtain ⟨x0, x1, x2, x3, x4, x5, x6, x7, x8, x9, xl⟩ := zz))
      go_ret
      exact ⟨ret_str (by first | (simp [cat_l, *]; done) | (simp [cat_l, List.append_assoc, *]; omega)), hB⟩
    · have za := C9.new w (.string ⟨F.toArray⟩) (.int .i64 al) (.int .i64 si) (.bool true) (.bool true) (.int .i64 0) (.int .i64 gr) (.int .i64 q) (.string ⟨T.toArray⟩) 25
      have hB : Below w.heap.size w (w.alloc (.cells #[.string ⟨F.toArray⟩, .int .i64 al, .int .i64 si, .bool true, .bool true, .int .i64 0, .int .i64 gr, .int .i64 q, .string ⟨T.toArray⟩] 25)) := (Below.refl _ _).alloc (Nat.le_refl _) _
      have zz := za
      obtain ⟨x0, x1, x2, x3, x4, x5, x6, x7, x8, x9, xl⟩ := zz
      go_enter Tryd.func15, Tryd.ntmps15
      go_wp2_with (first | (go_at_call 16; (with_reducible refine Calls.mono (K1.out _) ?_); rintro r w1 ⟨rfl, hb⟩; replace hB := hB.trans (hb.mono hB.size); replace za := za.carry hb; have zz := za; obtain ⟨x0, x1, x2, x3, x4, x5, x6, x7, x8, x9, xl⟩ := zz))
      obtain ⟨sza0, sza1, sza2, sza3, sza4, sza5, sza6, sza7, sza8⟩ := C9.since za
      refine wp_region_since (by kernel_rfl) (by kernel_rfl) ?_
      repeat (quiet_step (first | (go_at_call 31; with_reducible exact Calls.since_of (KA.out _)) | (go_at_call 31; with_reducible exact Calls.since_of (KS.out _))))
      refine wpQuiet_nil ?_
      intro w_ hw_
      obtain ⟨⟨w1, hb⟩, hw2⟩ := hw_
      have hw3 : w1 = w_ := hw2.symm
      clear hw2
      subst hw3
      clear sza0 sza1 sza2 sza3 sza4 sza5 sza6 sza7 sza8
      replace hB := hB.trans (hb.mono hB.size)
      have hz := hb.size
      replace za := C9.carry za hb
      have zz := za
      obtain ⟨x0, x1, x2, x3, x4, x5, x6, x7, x8, x9, xl⟩ := zz
      go_wp2_with (first | (go_at_call 16; (with_reducible refine Calls.mono (K1.out _) ?_); rintro r w1 ⟨rfl, hb⟩; replace hB := hB.trans (hb.mono hB.size); replace za := za.carry hb; have zz := za; obtain ⟨x0, x1, x2, x3, x4, x5, x6, x7, x8, x9, xl⟩ := zz) | (go_at_call 31; (with_reducible refine Calls.mono (KG.out _) ?_); rintro r w1 ⟨rfl, hb⟩; replace hB := hB.trans (hb.mono hB.size); replace za := za.carry hb; have zz := za; obtain ⟨x0, x1, x2, x3, x4, x5, x6, x7, x8, x9, xl⟩ := zz) | (go_at_call 37; (with_reducible refine Calls.mono (KQ.out _) ?_); rintro r w1 ⟨rfl, hb⟩; replace hB := hB.trans (hb.mono hB.size); replace za := za.carry hb; have zz := za; obtain ⟨x0, x1, x2, x3, x4, x5, x6, x7, x8, x9, xl⟩ := zz))
      go_ret
      exact ⟨ret_str (by first | (simp [cat_l, *]; done) | (simp [cat_l, List.append_assoc, *]; omega)), hB⟩
  have i1 : (0 : Int) < m := by omega
  have i2 : ((m : Int) == 0) = false := by first | (simp; done) | (simp; omega)
  by_cases hp : pr = -1
  · subst hp
    cases alt <;> cases ze
    · have za := C9.new w (.string ⟨F.toArray⟩) (.int .i64 al) (.int .i64 si) (.bool false) (.bool false) (.int .i64 m) (.int .i64 gr) (.int .i64 (-1)) (.string ⟨T.toArray⟩) 25
      have hB : Below w.heap.size w (w.alloc (.cells #[.string ⟨F.toArray⟩, .int .i64 al, .int .i64 si, .bool false, .bool false, .int .i64 m, .int .i64 gr, .int .i64 (-1), .string ⟨T.toArray⟩] 25)) := (Below.refl _ _).alloc (Nat.le_refl _) _
      have zz := za
      obtain ⟨x0, x1, x2, x3, x4, x5, x6, x7, x8, x9, xl⟩ := zz
      go_enter Tryd.func15, Tryd.ntmps15
      go_wp2_with (first | (go_at_call 16; (with_reducible refine Calls.mono (K1.out _) ?_); rintro r w1 ⟨rfl, hb⟩; replace hB := hB.trans (hb.mono hB.size); replace za := za.carry hb; have zz := za; obtain ⟨x0, x1, x2, x3, x4, x5, x6, x7, x8, x9, xl⟩ := zz))
      obtain ⟨sza0, sza1, sza2, sza3, sza4, sza5, sza6, sza7, sza8⟩ := C9.since za
      refine wp_region_since (by kernel_rfl) (by kernel_rfl) ?_
      repeat (quiet_step (first | (go_at_call 31; with_reducible exact Calls.since_of (KA.out _)) | (go_at_call 31; with_reducible exact Calls.since_of (KS.out _))))
      refine wpQuiet_nil ?_
      intro w_ hw_
      obtain ⟨⟨w1, hb⟩, hw2⟩ := hw_
      have hw3 : w1 = w_ := hw2.symm
      clear hw2
      subst hw3
      clear sza0 sza1 sza2 sza3 sza4 sza5 sza6 sza7 sza8
      replace hB := hB.trans (hb.mono hB.size)
      have hz := hb.size
      replace za := C9.carry za hb
      have zz := za
      obtain ⟨x0, x1, x2, x3, x4, x5, x6, x7, x8, x9, xl⟩ := zz
      go_wp2_with (first | (go_at_call 16; (with_reducible refine Calls.mono (K1.out _) ?_); rintro r w1 ⟨rfl, hb⟩; replace hB := hB.trans (hb.mono hB.size); replace za := za.carry hb; have zz := za; obtain ⟨x0, x1, x2, x3, x4, x5, x6, x7, x8, x9, xl⟩ := zz) | (go_at_call 31; (with_reducible refine Calls.mono (KG.out _) ?_); rintro r w1 ⟨rfl, hb⟩; replace hB := hB.trans (hb.mono hB.size); replace za := za.carry hb; have zz := za; obtain ⟨x0, x1, x2, x3, x4, x5, x6, x7, x8, x9, xl⟩ := zz) | (go_at_call 37; (with_reducible refine Calls.mono (KM.out _) ?_); rintro r w1 ⟨rfl, hb⟩; replace hB := hB.trans (hb.mono hB.size); replace za := za.carry hb; have zz := za; obtain ⟨x0, x1, x2, x3, x4, x5, x6, x7, x8, x9, xl⟩ := zz))
      go_ret
      exact ⟨ret_str (by first | (simp [cat_l, *]; done) | (simp [cat_l, List.append_assoc, *]; omega)), hB⟩
    · have za := C9.new w (.string ⟨F.toArray⟩) (.int .i64 al) (.int .i64 si) (.bool false) (.bool true) (.int .i64 m) (.int .i64 gr) (.int .i64 (-1)) (.string ⟨T.toArray⟩) 25
      have hB : Below w.heap.size w (w.alloc (.cells #[.string ⟨F.toArray⟩, .int .i64 al, .int .i64 si, .bool false, .bool true, .int .i64 m, .int .i64 gr, .int .i64 (-1), .string ⟨T.toArray⟩] 25)) := (Below.refl _ _).alloc (Nat.le_refl _) _
      have zz := za
      obtain ⟨x0, x1, x2, x3, x4, x5, x6, x7, x8, x9, xl⟩ := zz
      go_enter Tryd.func15, Tryd.ntmps15
      go_wp2_with (first | (go_at_call 16; (with_reducible refine Calls.mono (K1.out _) ?_); rintro r w1 ⟨rfl, hb⟩; replace hB := hB.trans (hb.mono hB.size); replace za := za.carry hb; have zz := za; obtain ⟨x0, x1, x2, x3, x4, x5, x6, x7, x8, x9, xl⟩ := zz))
      obtain ⟨sza0, sza1, sza2, sza3, sza4, sza5, sza6, sza7, sza8⟩ := C9.since za
      refine wp_region_since (by kernel_rfl) (by kernel_rfl) ?_
      repeat (quiet_step (first | (go_at_call 31; with_reducible exact Calls.since_of (KA.out _)) | (go_at_call 31; with_reducible exact Calls.since_of (KS.out _))))
      refine wpQuiet_nil ?_
      intro w_ hw_
      obtain ⟨⟨w1, hb⟩, hw2⟩ := hw_
      have hw3 : w1 = w_ := hw2.symm
      clear hw2
      subst hw3
      clear sza0 sza1 sza2 sza3 sza4 sza5 sza6 sza7 sza8
      replace hB := hB.trans (hb.mono hB.size)
      have hz := hb.size
      replace za := C9.carry za hb
      have zz := za
      obtain ⟨x0, x1, x2, x3, x4, x5, x6, x7, x8, x9, xl⟩ := zz
      go_wp2_with (first | (go_at_call 16; (with_reducible refine Calls.mono (K1.out _) ?_); rintro r w1 ⟨rfl, hb⟩; replace hB := hB.trans (hb.mono hB.size); replace za := za.carry hb; have zz := za; obtain ⟨x0, x1, x2, x3, x4, x5, x6, x7, x8, x9, xl⟩ := zz) | (go_at_call 31; (with_reducible refine Calls.mono (KG.out _) ?_); rintro r w1 ⟨rfl, hb⟩; replace hB := hB.trans (hb.mono hB.size); replace za := za.carry hb; have zz := za; obtain ⟨x0, x1, x2, x3, x4, x5, x6, x7, x8, x9, xl⟩ := zz) | (go_at_call 37; (with_reducible refine Calls.mono (KM.out _) ?_); rintro r w1 ⟨rfl, hb⟩; replace hB := hB.trans (hb.mono hB.size); replace za := za.carry hb; have zz := za; obtain ⟨x0, x1, x2, x3, x4, x5, x6, x7, x8, x9, xl⟩ := zz))
      go_ret
      exact ⟨ret_str (by first | (simp [cat_l, *]; done) | (simp [cat_l, List.append_assoc, *]; omega)), hB⟩
    · have za := C9.new w (.string ⟨F.toArray⟩) (.int .i64 al) (.int .i64 si) (.bool true) (.bool false) (.int .i64 m) (.int .i64 gr) (.int .i64 (-1)) (.string ⟨T.toArray⟩) 25
      have hB : Below w.heap.size w (w.alloc (.cells #[.string ⟨F.toArray⟩, .int .i64 al, .int .i64 si, .bool true, .bool false, .int .i64 m, .int .i64 gr, .int .i64 (-1), .string ⟨T.toArray⟩] 25)) := (Below.refl _ _).alloc (Nat.le_refl _) _
      have zz := za
      obtain ⟨x0, x1, x2, x3, x4, x5, x6, x7, x8, x9, xl⟩ := zz
      go_enter Tryd.func15, Tryd.ntmps15
      go_wp2_with (first | (go_at_call 16; (with_reducible refine Calls.mono (K1.out _) ?_); rintro r w1 ⟨rfl, hb⟩; replace hB := hB.trans (hb.mono hB.size); replace za := za.carry hb; have zz := za; obtain ⟨x0, x1, x2, x3, x4, x5, x6, x7, x8, x9, xl⟩ := zz))
      obtain ⟨sza0, sza1, sza2, sza3, sza4, sza5, sza6, sza7, sza8⟩ := C9.since za
      refine wp_region_since (by kernel_rfl) (by kernel_rfl) ?_
      repeat (quiet_step (first | (go_at_call 31; with_reducible exact Calls.since_of (KA.out _)) | (go_at_call 31; with_reducible exact Calls.since_of (KS.out _))))
      refine wpQuiet_nil ?_
      intro w_ hw_
      obtain ⟨⟨w1, hb⟩, hw2⟩ := hw_
      have hw3 : w1 = w_ := hw2.symm
      clear hw2
      subst hw3
      clear sza0 sza1 sza2 sza3 sza4 sza5 sza6 sza7 sza8
      replace hB := hB.trans (hb.mono hB.size)
      have hz := hb.size
      replace za := C9.carry za hb
      have zz := za
      obtain ⟨x0, x1, x2, x3, x4, x5, x6, x7, x8, x9, xl⟩ := zz
      go_wp2_with (first | (go_at_call 16; (with_reducible refine Calls.mono (K1.out _) ?_); rintro r w1 ⟨rfl, hb⟩; replace hB := hB.trans (hb.mono hB.size); replace za := za.carry hb; have zz := za; obtain ⟨x0, x1, x2, x3, x4, x5, x6, x7, x8, x9, xl⟩ := zz) | (go_at_call 31; (with_reducible refine Calls.mono (KG.out _) ?_); rintro r w1 ⟨rfl, hb⟩; replace hB := hB.trans (hb.mono hB.size); replace za := za.carry hb; have zz := za; obtain ⟨x0, x1, x2, x3, x4, x5, x6, x7, x8, x9, xl⟩ := zz) | (go_at_call 37; (with_reducible refine Calls.mono (KM.out _) ?_); rintro r w1 ⟨rfl, hb⟩; replace hB := hB.trans (hb.mono hB.size); replace za := za.carry hb; have zz := za; obtain ⟨x0, x1, x2, x3, x4, x5, x6, x7, x8, x9, xl⟩ := zz))
      go_ret
      exact ⟨ret_str (by first | (simp [cat_l, *]; done) | (simp [cat_l, List.append_assoc, *]; omega)), hB⟩
    · have za := C9.new w (.string ⟨F.toArray⟩) (.int .i64 al) (.int .i64 si) (.bool true) (.bool true) (.int .i64 m) (.int .i64 gr) (.int .i64 (-1)) (.string ⟨T.toArray⟩) 25
      have hB : Below w.heap.size w (w.alloc (.cells #[.string ⟨F.toArray⟩, .int .i64 al, .int .i64 si, .bool true, .bool true, .int .i64 m, .int .i64 gr, .int .i64 (-1), .string ⟨T.toArray⟩] 25)) := (Below.refl _ _).alloc (Nat.le_refl _) _
      have zz := za
      obtain ⟨x0, x1, x2, x3, x4, x5, x6, x7, x8, x9, xl⟩ := zz
      go_enter Tryd.func15, Tryd.ntmps15
      go_wp2_with (first | (go_at_call 16; (with_reducible refine Calls.mono (K1.out _) ?_); rintro r w1 ⟨rfl, hb⟩; replace hB := hB.trans (hb.mono hB.size); replace za := za.carry hb; have zz := za; obtain ⟨x0, x1, x2, x3, x4, x5, x6, x7, x8, x9, xl⟩ := zz))
      obtain ⟨sza0, sza1, sza2, sza3, sza4, sza5, sza6, sza7, sza8⟩ := C9.since za
      refine wp_region_since (by kernel_rfl) (by kernel_rfl) ?_
      repeat (quiet_step (first | (go_at_call 31; with_reducible exact Calls.since_of (KA.out _)) | (go_at_call 31; with_reducible exact Calls.since_of (KS.out _))))
      refine wpQuiet_nil ?_
      intro w_ hw_
      obtain ⟨⟨w1, hb⟩, hw2⟩ := hw_
      have hw3 : w1 = w_ := hw2.symm
      clear hw2
      subst hw3
      clear sza0 sza1 sza2 sza3 sza4 sza5 sza6 sza7 sza8
      replace hB := hB.trans (hb.mono hB.size)
      have hz := hb.size
      replace za := C9.carry za hb
      have zz := za
      obtain ⟨x0, x1, x2, x3, x4, x5, x6, x7, x8, x9, xl⟩ := zz
      go_wp2_with (first | (go_at_call 16; (with_reducible refine Calls.mono (K1.out _) ?_); rintro r w1 ⟨rfl, hb⟩; replace hB := hB.trans (hb.mono hB.size); replace za := za.carry hb; have zz := za; obtain ⟨x0, x1, x2, x3, x4, x5, x6, x7, x8, x9, xl⟩ := zz) | (go_at_call 31; (with_reducible refine Calls.mono (KG.out _) ?_); rintro r w1 ⟨rfl, hb⟩; replace hB := hB.trans (hb.mono hB.size); replace za := za.carry hb; have zz := za; obtain ⟨x0, x1, x2, x3, x4, x5, x6, x7, x8, x9, xl⟩ := zz) | (go_at_call 37; (with_reducible refine Calls.mono (KM.out _) ?_); rintro r w1 ⟨rfl, hb⟩; replace hB := hB.trans (hb.mono hB.size); replace za := za.carry hb; have zz := za; obtain ⟨x0, x1, x2, x3, x4, x5, x6, x7, x8, x9, xl⟩ := zz))
      go_ret
      exact ⟨ret_str (by first | (simp [cat_l, *]; done) | (simp [cat_l, List.append_assoc, *]; omega)), hB⟩
  obtain ⟨q, rfl⟩ := Int.eq_ofNat_of_zero_le (show 0 ≤ pr by omega)
  have lQ := dec2_len q
  have kQ := fun W => Itoa_two q (by omega) W
  generalize hDQ : dec2 q = QQ at *
  have KQ := Lib.hid kQ
  clear kQ
  have j1 : (((q : Nat) : Int) == -1) = false := by first | (simp; done) | (simp; omega)
  have j2 : ¬ ((q : Nat) : Int) = -1 := by omega
  have j3 : (0 : Int) ≤ (q : Nat) := by omega
  cases alt <;> cases ze
  · have za := C9.new w (.string ⟨F.toArray⟩) (.int .i64 al) (.int .i64 si) (.bool false) (.bool false) (.int .i64 m) (.int .i64 gr) (.int .i64 q) (.string ⟨T.toArray⟩) 25
    have hB : Below w.heap.size w (w.alloc (.cells #[.string ⟨F.toArray⟩, .int .i64 al, .int .i64 si, .bool false, .bool false, .int .i64 m, .int .i64 gr, .int .i64 q, .string ⟨T.toArray⟩] 25)) := (Below.refl _ _).alloc (Nat.le_refl _) _
    have zz := za
    obtain ⟨x0, x1, x2, x3, x4, x5, x6, x7, x8, x9, xl⟩ := zz
    go_enter Tryd.func15, Tryd.ntmps15
    go_wp2_with (first | (go_at_call 16; (with_reducible refine Calls.mono (K1.out _) ?_); rintro r w1 ⟨rfl, hb⟩; replace hB := hB.trans (hb.mono hB.size); replace za := za.carry hb; have zz := za; obtain ⟨x0, x1, x2, x3, x4, x5, x6, x7, x8, x9, xl⟩ := zz))
    obtain ⟨sza0, sza1, sza2, sza3, sza4, sza5, sza6, sza7, sza8⟩ := C9.since za
    refine wp_region_since (by kernel_rfl) (by kernel_rfl) ?_
    repeat (quiet_step (first | (go_at_call 31; with_reducible exact Calls.since_of (KA.out _)) | (go_at_call 31; with_reducible exact Calls.since_of (KS.out _))))
    refine wpQuiet_nil ?_
    intro w_ hw_
    obtain ⟨⟨w1, hb⟩, hw2⟩ := hw_
    have hw3 : w1 = w_ := hw2.symm
    clear hw2
    subst hw3
    clear sza0 sza1 sza2 sza3 sza4 sza5 sza6 sza7 sza8
    replace hB := hB.trans (hb.mono hB.size)
    have hz := hb.size
    replace za := C9.carry za hb
    have zz := za
    obtain ⟨x0, x1, x2, x3, x4, x5, x6, x7, x8, x9, xl⟩ := zz
    go_wp2_with (first | (go_at_call 16; (with_reducible refine Calls.mono (K1.out _) ?_); rintro r w1 ⟨rfl, hb⟩; replace hB := hB.trans (hb.mono hB.size); replace za := za.carry hb; have zz := za; obtain ⟨x0, x1, x2, x3, x4, x5, x6, x7, x8, x9, xl⟩ := zz) | (go_at_call 31; (with_reducible refine Calls.mono (KG.out _) ?_); rintro r w1 ⟨rfl, hb⟩; replace hB := hB.trans (hb.mono hB.size); replace za := za.carry hb; have zz := za; obtain ⟨x0, x1, x2, x3, x4, x5, x6, x7, x8, x9, xl⟩ := zz) | (go_at_call 37; (with_reducible refine Calls.mono (KM.out _) ?_); rintro r w1 ⟨rfl, hb⟩; replace hB := hB.trans (hb.mono hB.size); replace za := za.carry hb; have zz := za; obtain ⟨x0, x1, x2, x3, x4, x5, x6, x7, x8, x9, xl⟩ := zz) | (go_at_call 37; (with_reducible refine Calls.mono (KQ.out _) ?_); rintro r w1 ⟨rfl, hb⟩; replace hB := hB.trans (hb.mono hB.size); replace za := za.carry hb; have zz := za; obtain ⟨x0, x1, x2, x3, x4, x5, x6, x7, x8, x9, xl⟩ := zz))
    go_ret
    exact ⟨ret_str (by first | (simp [cat_l, *]; done) | (simp [cat_l, List.append_assoc, *]; omega)), hB⟩
  · have za := C9.new w (.string ⟨F.toArray⟩) (.int .i64 al) (.int .i64 si) (.bool false) (.bool true) (.int .i64 m) (.int .i64 gr) (.int .i64 q) (.string ⟨T.toArray⟩) 25
    have hB : Below w.heap.size w (w.alloc (.cells #[.string ⟨F.toArray⟩, .int .i64 al, .int .i64 si, .bool false, .bool true, .int .i64 m, .int .i64 gr, .int .i64 q, .string ⟨T.toArray⟩] 25)) := (Below.refl _ _).alloc (Nat.le_refl _) _
    have zz := za
    obtain ⟨x0, x1, x2, x3, x4, x5, x6, x7, x8, x9, xl⟩ := zz
    go_enter Tryd.func15, Tryd.ntmps15
    go_wp2_with (first | (go_at_call 16; (with_reducible refine Calls.mono (K1.out _) ?_); rintro r w1 ⟨rfl, hb⟩; replace hB := hB.trans (hb.mono hB.size); replace za := za.carry hb; have zz := za; obtain ⟨x0, x1, x2, x3, x4, x5, x6, x7, x8, x9, xl⟩ := zz))
    obtain ⟨sza0, sza1, sza2, sza3, sza4, sza5, sza6, sza7, sza8⟩ := C9.since za
    refine wp_region_since (by kernel_rfl) (by kernel_rfl) ?_
    repeat (quiet_step (first | (go_at_call 31; with_reducible exact Calls.since_of (KA.out _)) | (go_at_call 31; with_reducible exact Calls.since_of (KS.out _))))
    refine wpQuiet_nil ?_
    intro w_ hw_
    obtain ⟨⟨w1, hb⟩, hw2⟩ := hw_
    have hw3 : w1 = w_ := hw2.symm
    clear hw2
    subst hw3
    clear sza0 sza1 sza2 sza3 sza4 sza5 sza6 sza7 sza8
    replace hB := hB.trans (hb.mono hB.size)
    have hz := hb.size
    replace za := C9.carry za hb
    have zz := za
    obtain ⟨x0, x1, x2, x3, x4, x5, x6, x7, x8, x9, xl⟩ := zz
    go_wp2_with (first | (go_at_call 16; (with_reducible refine Calls.mono (K1.out _) ?_); rintro r w1 ⟨rfl, hb⟩; replace hB := hB.trans (hb.mono hB.size); replace za := za.carry hb; have zz := za; obtain ⟨x0, x1, x2, x3, x4, x5, x6, x7, x8, x9, xl⟩ := zz) | (go_at_call 31; (with_reducible refine Calls.mono (KG.out _) ?_); rintro r w1 ⟨rfl, hb⟩; replace hB := hB.trans (hb.mono hB.size); replace za := za.carry hb; have zz := za; obtain ⟨x0, x1, x2, x3, x4, x5, x6, x7, x8, x9, xl⟩ := zz) | (go_at_call 37; (with_reducible refine Calls.mono (KM.out _) ?_); rintro r w1 ⟨rfl, hb⟩; replace hB := hB.trans (hb.mono hB.size); replace za := za.carry hb; have zz := za; obtain ⟨x0, x1, x2, x3, x4, x5, x6, x7, x8, x9, xl⟩ := zz) | (go_at_call 37; (with_reducible refine Calls.mono (KQ.out _) ?_); rintro r w1 ⟨rfl, hb⟩; replace hB := hB.trans (hb.mono hB.size); replace za := za.carry hb; have zz := za; obtain ⟨x0, x1, x2, x3, x4, x5, x6, x7, x8, x9, xl⟩ := zz))
    go_ret
    exact ⟨ret_str (by first | (simp [cat_l, *]; done) | (simp [cat_l, List.append_assoc, *]; omega)), hB⟩
  · have za := C9.new w (.string ⟨F.toArray⟩) (.int .i64 al) (.int .i64 si) (.bool true) (.bool false) (.int .i64 m) (.int .i64 gr) (.int .i64 q) (.string ⟨T.toArray⟩) 25
    have hB : Below w.heap.size w (w.alloc (.cells #[.string ⟨F.toArray⟩, .int .i64 al, .int .i64 si, .bool true, .bool false, .int .i64 m, .int .i64 gr, .int .i64 q, .string ⟨T.toArray⟩] 25)) := (Below.refl _ _).alloc (Nat.le_refl _) _
    have zz := za
    obtain ⟨x0, x1, x2, x3, x4, x5, x6, x7, x8, x9, xl⟩ := zz
    go_enter Tryd.func15, Tryd.ntmps15
    go_wp2_with (first | (go_at_call 16; (with_reducible refine Calls.mono (K1.out _) ?_); rintro r w1 ⟨rfl, hb⟩; replace hB := hB.trans (hb.mono hB.size); replace za := za.carry hb; have zz := za; obtain ⟨x0, x1, x2, x3, x4, x5, x6, x7, x8, x9, xl⟩ := zz))
    obtain ⟨sza0, sza1, sza2, sza3, sza4, sza5, sza6, sza7, sza8⟩ := C9.since za
    refine wp_region_since (by kernel_rfl) (by kernel_rfl) ?_
    repeat (quiet_step (first | (go_at_call 31; with_reducible exact Calls.since_of (KA.out _)) | (go_at_call 31; with_reducible exact Calls.since_of (KS.out _))))
    refine wpQuiet_nil ?_
    intro w_ hw_
    obtain ⟨⟨w1, hb⟩, hw2⟩ := hw_
    have hw3 : w1 = w_ := hw2.symm
    clear hw2
    subst hw3
    clear sza0 sza1 sza2 sza3 sza4 sza5 sza6 sza7 sza8
    replace hB := hB.trans (hb.mono hB.size)
    have hz := hb.size
    replace za := C9.carry za hb
    have zz := za
    obtain ⟨x0, x1, x2, x3, x4, x5, x6, x7, x8, x9, xl⟩ := zz
    go_wp2_with (first | (go_at_call 16; (with_reducible refine Calls.mono (K1.out _) ?_); rintro r w1 ⟨rfl, hb⟩; replace hB := hB.trans (hb.mono hB.size); replace za := za.carry hb; have zz := za; obtain ⟨x0, x1, x2, x3, x4, x5, x6, x7, x8, x9, xl⟩ := zz) | (go_at_call 31; (with_reducible refine Calls.mono (KG.out _) ?_); rintro r w1 ⟨rfl, hb⟩; replace hB := hB.trans (hb.mono hB.size); replace za := za.carry hb; have zz := za; obtain ⟨x0, x1, x2, x3, x4, x5, x6, x7, x8, x9, xl⟩ := zz) | (go_at_call 37; (with_reducible refine Calls.mono (KM.out _) ?_); rintro r w1 ⟨rfl, hb⟩; replace hB := hB.trans (hb.mono hB.size); replace za := za.carry hb; have zz := za; obtain ⟨x0, x1, x2, x3, x4, x5, x6, x7, x8, x9, xl⟩ := zz) | (go_at_call 37; (with_reducible refine Calls.mono (KQ.out _) ?_); rintro r w1 ⟨rfl, hb⟩; replace hB := hB.trans (hb.mono hB.size); replace za := za.carry hb; have zz := za; obtain ⟨x0, x1, x2, x3, x4, x5, x6, x7, x8, x9, xl⟩ := zz))
    go_ret
    exact ⟨ret_str (by first | (simp [cat_l, *]; done) | (simp [cat_l, List.append_assoc, *]; omega)), hB⟩
  · have za := C9.new w (.string ⟨F.toArray⟩) (.int .i64 al) (.int .i64 si) (.bool true) (.bool true) (.int .i64 m) (.int .i64 gr) (.int .i64 q) (.string ⟨T.toArray⟩) 25
    have hB : Below w.heap.size w (w.alloc (.cells #[.string ⟨F.toArray⟩, .int .i64 al, .int .i64 si, .bool true, .bool true, .int .i64 m, .int .i64 gr, .int .i64 q, .string ⟨T.toArray⟩] 25)) := (Below.refl _ _).alloc (Nat.le_refl _) _
    have zz := za
    obtain ⟨x0, x1, x2, x3, x4, x5, x6, x7, x8, x9, xl⟩ := zz
    go_enter Tryd.func15, Tryd.ntmps15
    go_wp2_with (first | (go_at_call 16; (with_reducible refine Calls.mono (K1.out _) ?_); rintro r w1 ⟨rfl, hb⟩; replace hB := hB.trans (hb.mono hB.size); replace za := za.carry hb; have zz := za; obtain ⟨x0, x1, x2, x3, x4, x5, x6, x7, x8, x9, xl⟩ := zz))
    obtain ⟨sza0, sza1, sza2, sza3, sza4, sza5, sza6, sza7, sza8⟩ := C9.since za
    refine wp_region_since (by kernel_rfl) (by kernel_rfl) ?_
    repeat (quiet_step (first | (go_at_call 31; with_reducible exact Calls.since_of (KA.out _)) | (go_at_call 31; with_reducible exact Calls.since_of (KS.out _))))
    refine wpQuiet_nil ?_
    intro w_ hw_
    obtain ⟨⟨w1, hb⟩, hw2⟩ := hw_
    have hw3 : w1 = w_ := hw2.symm
    clear hw2
    subst hw3
    clear sza0 sza1 sza2 sza3 sza4 sza5 sza6 sza7 sza8
    replace hB := hB.trans (hb.mono hB.size)
    have hz := hb.size
    replace za := C9.carry za hb
    have zz := za
    obtain ⟨x0, x1, x2, x3, x4, x5, x6, x7, x8, x9, xl⟩ := zz
    go_wp2_with (first | (go_at_call 16; (with_reducible refine Calls.mono (K1.out _) ?_); rintro r w1 ⟨rfl, hb⟩; replace hB := hB.trans (hb.mono hB.size); replace za := za.carry hb; have zz := za; obtain ⟨x0, x1, x2, x3, x4, x5, x6, x7, x8, x9, xl⟩ := zz) | (go_at_call 31; (with_reducible refine Calls.mono (KG.out _) ?_); rintro r w1 ⟨rfl, hb⟩; replace hB := hB.trans (hb.mono hB.size); replace za := za.carry hb; have zz := za; obtain ⟨x0, x1, x2, x3, x4, x5, x6, x7, x8, x9, xl⟩ := zz) | (go_at_call 37; (with_reducible refine Calls.mono (KM.out _) ?_); rintro r w1 ⟨rfl, hb⟩; replace hB := hB.trans (hb.mono hB.size); replace za := za.carry hb; have zz := za; obtain ⟨x0, x1, x2, x3, x4, x5, x6, x7, x8, x9, xl⟩ := zz) | (go_at_call 37; (with_reducible refine Calls.mono (KQ.out _) ?_); rintro r w1 ⟨rfl, hb⟩; replace hB := hB.trans (hb.mono hB.size); replace za := za.carry hb; have zz := za; obtain ⟨x0, x1, x2, x3, x4, x5, x6, x7, x8, x9, xl⟩ := zz))
    go_ret
    exact ⟨ret_str (by first | (simp [cat_l, *]; done) | (simp [cat_l, List.append_assoc, *]; omega)), hB⟩
end Go.Proofs.YtbkdjldimmhbjaaDoor
