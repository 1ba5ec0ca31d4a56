import Derived.Test.YtcbpocpkfmbaoaaGreatDoorX5
import Derived.Test.YtcbpocpkfmbaoaaGreatDoorZ9
namespace Go.Proofs.YtcbpocpkfmbaoaaGreatDoor
open Go.RowKit
set_option maxHeartbeats 1000000 in
theorem readWholeS_any (l t : List UInt8) (gr : Int) (w : World) (hl : l.length ≤ 80) (hT : TyOk t) (h0 : 0 ≤ gr) (h2 : gr ≤ 2) :
    Calls Tryz.prog 41 #[.string ⟨l.toArray⟩, .string ⟨t.toArray⟩, .string ⟨(mkL gr).toArray⟩] w fun r w' => r = .returned (.tuple #[.int .i64 (resN (grpV gr t (Lib.trimPrefix (cutD l) (tyPre t))) (cutN l)), .bool (resB (grpV gr t (Lib.trimPrefix (cutD l) (tyPre t))))]) ∧ Below w.heap.size w w' := by
  rw [← pre_same hT gr h0 h2]
  cases l with
  | nil => exact readWholeS_nil [] t gr w hl hT h0 h2 rfl
  | cons c r =>
    cases hs : isSign c
    · exact readWholeS_plain (c :: r) t gr w hl hT h0 h2 c r rfl hs
    · rw [isSign_eq] at hs
      simp only [Bool.or_eq_true, beq_iff_eq] at hs
      rcases hs with rfl | rfl | rfl
      · exact readWholeS_45 (45 :: r) t gr w hl hT h0 h2 r rfl
      · exact readWholeS_43 (43 :: r) t gr w hl hT h0 h2 r rfl
      · exact readWholeS_32 (32 :: r) t gr w hl hT h0 h2 r rfl
def rwOk (v : Bool) (al si : Int) (alt ze : Bool) (gr pr : Int) (t x : ByteArray) : Bool := suitW v al si alt ze gr pr t 0 && (!(t.data.toList == [99]) && decide (x.size ≤ 80))
def rwV (gr : Int) (t x : ByteArray) : Int := grpV gr t.data.toList (Lib.trimPrefix (cutD x.data.toList) (tyPre t.data.toList))
def rwN (ok : Bool) (gr : Int) (t x : ByteArray) : Int := if ok then resN (rwV gr t x) (cutN x.data.toList) else 0
def rwB (ok : Bool) (gr : Int) (t x : ByteArray) : Bool := if ok then resB (rwV gr t x) else false
theorem tyOkR {al si : Int} {alt ze : Bool} {gr pr : Int} {t : ByteArray} (h : suitT al si alt ze gr pr t 0 = true) (hc : (t.data.toList == [99]) = false) : TyOk t.data.toList := by
  unfold suitT at h
  split at h
  · rename_i e; rw [e]; exact .inl rfl
  · rename_i b e
    rw [e] at hc ⊢
    simp only [Bool.and_eq_true] at h
    rcases kind_zero h.1 with rfl | rfl | rfl | rfl | rfl | rfl
    · exact .inr (.inl rfl)
    · exact .inr (.inr (.inl rfl))
    · exact .inr (.inr (.inr (.inl rfl)))
    · exact .inr (.inr (.inr (.inr (.inl rfl))))
    · exact .inr (.inr (.inr (.inr (.inr rfl))))
    · simp at hc
  · cases h
theorem c_type {t : ByteArray} (h : (t.data.toList == [99]) = true) : t = ⟨#[99]⟩ := by
  have := of_list t
  rw [eq_of_beq h] at this
  exact this
set_option maxRecDepth 100000 in
set_option maxHeartbeats 8000000 in
theorem ReadWhole_any (f : ByteArray) (al si : Int) (alt ze : Bool) (wi gr pr : Int) (t x : ByteArray) (w : World) (hx : x.size ≤ 9223372036854775807) (hM : HasMax w) :
    Calls Tryz.prog 9 #[.agg #[.string f, .int .i64 al, .int .i64 si, .bool alt, .bool ze, .int .i64 wi, .int .i64 gr, .int .i64 pr, .string t], .string x] w fun r w' => r = .returned (.tuple #[.int .i64 (rwN (rwOk (vSp f al si wi gr pr t) al si alt ze gr pr t x) gr t x), .bool (rwB (rwOk (vSp f al si wi gr pr t) al si alt ze gr pr t x) gr t x)]) ∧ Below w.heap.size w w' := by
  have ks := fun W => SpecSuits_any f al si alt ze wi gr pr t 0 W
  by_cases h80 : x.size ≤ 80
  · have i1 : (x.size : Int) ≤ 80 := by omega
    have i2 : ¬ (80 : Int) < x.size := by omega
    cases hs : suitW (vSp f al si wi gr pr t) al si alt ze gr pr t 0
    · have hok : rwOk (vSp f al si wi gr pr t) al si alt ze gr pr t x = false := by unfold rwOk; rw [hs]; rfl
      rw [hok, show rwN false gr t x = 0 from rfl, show rwB false gr t x = false from rfl]
      rw [hs] at ks
      have KS := Lib.hid ks
      clear ks hs hok hM
      have za := C9.new w (.string f) (.int .i64 al) (.int .i64 si) (.bool alt) (.bool ze) (.int .i64 wi) (.int .i64 gr) (.int .i64 pr) (.string t) 24
      have hB : Below w.heap.size w (w.alloc (.cells #[.string f, .int .i64 al, .int .i64 si, .bool alt, .bool ze, .int .i64 wi, .int .i64 gr, .int .i64 pr, .string t] 24)) := (Below.refl _ _).alloc (Nat.le_refl _) _
      have zz := za
      obtain ⟨x0, x1, x2, x3, x4, x5, x6, x7, x8, x9, xl⟩ := zz
      go_enter Tryz.func9, Tryz.ntmps9
      go_wp2_with (first | (go_at_call 20; (with_reducible refine Calls.mono (KS.out _) ?_); rintro r w1 ⟨rfl, hb⟩; replace hB := hB.trans (hb.mono hB.size); replace za := za.carry hb; have zz := za; obtain ⟨x0, x1, x2, x3, x4, x5, x6, x7, x8, x9, xl⟩ := zz))
      all_goals go_ret2
      all_goals exact ⟨rfl, hB⟩
    · rw [hs] at ks
      cases hc : (t.data.toList == [99])
      · have hv : vSp f al si wi gr pr t = true := by
          cases hv : vSp f al si wi gr pr t
          · rw [hv] at hs; cases hs
          · rfl
        have V := vSp_open hv
        have hT : TyOk t.data.toList := by
          rw [hv] at hs
          exact tyOkR hs hc
        have hok : rwOk (vSp f al si wi gr pr t) al si alt ze gr pr t x = true := by unfold rwOk; rw [hs, hc, decide_eq_true h80]; rfl
        rw [hok, show rwN true gr t x = resN (rwV gr t x) (cutN x.data.toList) from rfl, show rwB true gr t x = resB (rwV gr t x) from rfl]
        unfold rwV
        have et := of_list t
        have ex := of_list x
        have hxl : x.data.toList.length ≤ 80 := by rw [Array.length_toList]; exact h80
        have hg0 := V.gr0
        have hg2 := V.gr2
        clear V hok hs hv hc
        generalize t.data.toList = T at *
        generalize x.data.toList = X at *
        subst et ex
        by_cases hg : gr = 0
        · exact ReadWhole_none f al si alt ze wi gr pr T X w hxl hT hg ks
        · exact ReadWhole_some f al si alt ze wi gr pr T X w hxl hT hg hg0 hg2 hM ks
      · have hok : rwOk (vSp f al si wi gr pr t) al si alt ze gr pr t x = false := by unfold rwOk; rw [hc]; simp
        rw [hok, show rwN false gr t x = 0 from rfl, show rwB false gr t x = false from rfl]
        obtain rfl := c_type hc
        have KS := Lib.hid ks
        clear ks hs hok hM hc
        have za := C9.new w (.string f) (.int .i64 al) (.int .i64 si) (.bool alt) (.bool ze) (.int .i64 wi) (.int .i64 gr) (.int .i64 pr) (.string ⟨#[99]⟩) 24
        have hB : Below w.heap.size w (w.alloc (.cells #[.string f, .int .i64 al, .int .i64 si, .bool alt, .bool ze, .int .i64 wi, .int .i64 gr, .int .i64 pr, .string ⟨#[99]⟩] 24)) := (Below.refl _ _).alloc (Nat.le_refl _) _
        have zz := za
        obtain ⟨x0, x1, x2, x3, x4, x5, x6, x7, x8, x9, xl⟩ := zz
        go_enter Tryz.func9, Tryz.ntmps9
        go_wp2_with (first | (go_at_call 20; (with_reducible refine Calls.mono (KS.out _) ?_); rintro r w1 ⟨rfl, hb⟩; replace hB := hB.trans (hb.mono hB.size); replace za := za.carry hb; have zz := za; obtain ⟨x0, x1, x2, x3, x4, x5, x6, x7, x8, x9, xl⟩ := zz))
        all_goals go_ret2
        all_goals exact ⟨rfl, hB⟩
  · have hok : rwOk (vSp f al si wi gr pr t) al si alt ze gr pr t x = false := by unfold rwOk; rw [decide_eq_false h80]; simp
    rw [hok, show rwN false gr t x = 0 from rfl, show rwB false gr t x = false from rfl]
    have i1 : (80 : Int) < x.size := by omega
    clear ks hok hM
    have za := C9.new w (.string f) (.int .i64 al) (.int .i64 si) (.bool alt) (.bool ze) (.int .i64 wi) (.int .i64 gr) (.int .i64 pr) (.string t) 24
    have hB : Below w.heap.size w (w.alloc (.cells #[.string f, .int .i64 al, .int .i64 si, .bool alt, .bool ze, .int .i64 wi, .int .i64 gr, .int .i64 pr, .string t] 24)) := (Below.refl _ _).alloc (Nat.le_refl _) _
    have zz := za
    obtain ⟨x0, x1, x2, x3, x4, x5, x6, x7, x8, x9, xl⟩ := zz
    go_enter Tryz.func9, Tryz.ntmps9
    go_wp2
    all_goals go_ret2
    all_goals exact ⟨rfl, hB⟩
set_option maxRecDepth 100000 in
set_option maxHeartbeats 8000000 in
theorem ReadWholeS_any (f : ByteArray) (al si : Int) (alt ze : Bool) (wi gr pr : Int) (t x : ByteArray) (w : World) (hx : x.size ≤ 9223372036854775807) :
    Calls Tryz.prog 14 #[.agg #[.string f, .int .i64 al, .int .i64 si, .bool alt, .bool ze, .int .i64 wi, .int .i64 gr, .int .i64 pr, .string t], .string x] w fun r w' => r = .returned (.tuple #[.int .i64 (rwN (rwOk (vSp f al si wi gr pr t) al si alt ze gr pr t x) gr t x), .bool (rwB (rwOk (vSp f al si wi gr pr t) al si alt ze gr pr t x) gr t x)]) ∧ Below w.heap.size w w' := by
  have kv := fun W => validSpecS_any f al si alt ze wi gr pr t W
  cases hv : vSp f al si wi gr pr t
  · have hok : rwOk false al si alt ze gr pr t x = false := rfl
    rw [hok, show rwN false gr t x = 0 from rfl, show rwB false gr t x = false from rfl]
    rw [hv] at kv
    have KV := Lib.hid kv
    clear kv hv hok
    have za := C9.new w (.string f) (.int .i64 al) (.int .i64 si) (.bool alt) (.bool ze) (.int .i64 wi) (.int .i64 gr) (.int .i64 pr) (.string t) 24
    have hB : Below w.heap.size w (w.alloc (.cells #[.string f, .int .i64 al, .int .i64 si, .bool alt, .bool ze, .int .i64 wi, .int .i64 gr, .int .i64 pr, .string t] 24)) := (Below.refl _ _).alloc (Nat.le_refl _) _
    have zz := za
    obtain ⟨x0, x1, x2, x3, x4, x5, x6, x7, x8, x9, xl⟩ := zz
    go_enter Tryz.func14, Tryz.ntmps14
    go_wp2_with (first | (go_at_call 39; (with_reducible refine Calls.mono (KV.out _) ?_); rintro r w1 ⟨rfl, hb⟩; replace hB := hB.trans (hb.mono hB.size); replace za := za.carry hb; have zz := za; obtain ⟨x0, x1, x2, x3, x4, x5, x6, x7, x8, x9, xl⟩ := zz))
    all_goals go_ret2
    all_goals exact ⟨rfl, hB⟩
  · rw [hv] at kv
    have V := vSp_open hv
    have ks := fun W => suitsS_any f al si alt ze wi gr pr t 0 W V.pr0 V.type
    cases hs : suitT al si alt ze gr pr t 0
    · have hok : rwOk true al si alt ze gr pr t x = false := by unfold rwOk suitW; rw [hs]; rfl
      rw [hok, show rwN false gr t x = 0 from rfl, show rwB false gr t x = false from rfl]
      rw [hs] at ks
      have KV := Lib.hid kv; have KS := Lib.hid ks
      clear kv ks hv hs hok V
      have za := C9.new w (.string f) (.int .i64 al) (.int .i64 si) (.bool alt) (.bool ze) (.int .i64 wi) (.int .i64 gr) (.int .i64 pr) (.string t) 24
      have hB : Below w.heap.size w (w.alloc (.cells #[.string f, .int .i64 al, .int .i64 si, .bool alt, .bool ze, .int .i64 wi, .int .i64 gr, .int .i64 pr, .string t] 24)) := (Below.refl _ _).alloc (Nat.le_refl _) _
      have zz := za
      obtain ⟨x0, x1, x2, x3, x4, x5, x6, x7, x8, x9, xl⟩ := zz
      go_enter Tryz.func14, Tryz.ntmps14
      go_wp2_with (first | (go_at_call 39; (with_reducible refine Calls.mono (KV.out _) ?_); rintro r w1 ⟨rfl, hb⟩; replace hB := hB.trans (hb.mono hB.size); replace za := za.carry hb; have zz := za; obtain ⟨x0, x1, x2, x3, x4, x5, x6, x7, x8, x9, xl⟩ := zz) | (go_at_call 40; (with_reducible refine Calls.mono (KS.out _) ?_); rintro r w1 ⟨rfl, hb⟩; replace hB := hB.trans (hb.mono hB.size); replace za := za.carry hb; have zz := za; obtain ⟨x0, x1, x2, x3, x4, x5, x6, x7, x8, x9, xl⟩ := zz))
      all_goals go_ret2
      all_goals exact ⟨rfl, hB⟩
    · rw [hs] at ks
      cases hc : (t.data.toList == [99])
      · have hT := tyOkR hs hc
        by_cases h80 : x.size ≤ 80
        · have hok : rwOk true al si alt ze gr pr t x = true := by unfold rwOk suitW; rw [hs, hc, decide_eq_true h80]; rfl
          rw [hok, show rwN true gr t x = resN (rwV gr t x) (cutN x.data.toList) from rfl, show rwB true gr t x = resB (rwV gr t x) from rfl]
          unfold rwV
          have et := of_list t
          have ex := of_list x
          have hxl : x.data.toList.length ≤ 80 := by rw [Array.length_toList]; exact h80
          have hg0 := V.gr0
          have hg2 := V.gr2
          have i1 : (x.size : Int) ≤ 80 := by omega
          have ht1 : (t.data.toList == [99]) = false := hc
          clear V hok hs hv hc
          generalize t.data.toList = T at *
          generalize x.data.toList = X at *
          subst et ex
          have ht2 : ¬ T = [99] := by simpa using ht1
          have i2 : (X.length : Int) ≤ 80 := by omega
          have kr := fun W => readWholeS_any X T gr W hxl hT hg0 hg2
          have km := fun W => mBn (markS_g gr hg0 hg2 W)
          generalize grpV gr T (Lib.trimPrefix (cutD X) (tyPre T)) = Z at *
          generalize resN Z (cutN X) = A at *
          generalize resB Z = B at *
          generalize mkL gr = M at *
          have KV := Lib.hid kv; have KS := Lib.hid ks; have KR := Lib.hid kr; have KM := Lib.hid km
          clear kv ks kr km hT
          have za := C9.new w (.string f) (.int .i64 al) (.int .i64 si) (.bool alt) (.bool ze) (.int .i64 wi) (.int .i64 gr) (.int .i64 pr) (.string ⟨T.toArray⟩) 24
          have hB : Below w.heap.size w (w.alloc (.cells #[.string f, .int .i64 al, .int .i64 si, .bool alt, .bool ze, .int .i64 wi, .int .i64 gr, .int .i64 pr, .string ⟨T.toArray⟩] 24)) := (Below.refl _ _).alloc (Nat.le_refl _) _
          have zz := za
          obtain ⟨x0, x1, x2, x3, x4, x5, x6, x7, x8, x9, xl⟩ := zz
          go_enter Tryz.func14, Tryz.ntmps14
          go_wp2_with (first | (go_at_call 39; (with_reducible refine Calls.mono (KV.out _) ?_); rintro r w1 ⟨rfl, hb⟩; replace hB := hB.trans (hb.mono hB.size); replace za := za.carry hb; have zz := za; obtain ⟨x0, x1, x2, x3, x4, x5, x6, x7, x8, x9, xl⟩ := zz) | (go_at_call 40; (with_reducible refine Calls.mono (KS.out _) ?_); rintro r w1 ⟨rfl, hb⟩; replace hB := hB.trans (hb.mono hB.size); replace za := za.carry hb; have zz := za; obtain ⟨x0, x1, x2, x3, x4, x5, x6, x7, x8, x9, xl⟩ := zz))
          obtain ⟨sza0, sza1, sza2, sza3, sza4, sza5, sza6, sza7, sza8⟩ := C9.since za
          refine wp_region_since (by kernel_rfl) (by kernel_rfl) ?_
          repeat (quiet_step (first | (go_at_call 42; with_reducible exact Calls.since_of (KM.out _)) | (go_at_call 41; with_reducible exact Calls.since_of (KR.out _))))
          refine wpQuiet_nil ?_
          intro w_ hw_
          obtain ⟨⟨w1, hb⟩, hw2⟩ := hw_
          have hw3 : w1 = w_ := hw2.symm
          clear hw2
          subst hw3
          clear sza0 sza1 sza2 sza3 sza4 sza5 sza6 sza7 sza8
          replace hB := hB.trans (hb.mono hB.size)
          have hz := hb.size
          replace za := C9.carry za hb
          have zz := za
          obtain ⟨x0, x1, x2, x3, x4, x5, x6, x7, x8, x9, xl⟩ := zz
          go_wp2
          all_goals go_ret2
          all_goals exact ⟨rfl, hB⟩
        · have hok : rwOk true al si alt ze gr pr t x = false := by unfold rwOk; rw [decide_eq_false h80]; simp
          rw [hok, show rwN false gr t x = 0 from rfl, show rwB false gr t x = false from rfl]
          have i1 : (80 : Int) < x.size := by omega
          have et := of_list t
          have ht1 : (t.data.toList == [99]) = false := hc
          clear V hok hs hv hc hT
          generalize t.data.toList = T at *
          subst et
          have ht2 : ¬ T = [99] := by simpa using ht1
          have KV := Lib.hid kv; have KS := Lib.hid ks
          clear kv ks
          have za := C9.new w (.string f) (.int .i64 al) (.int .i64 si) (.bool alt) (.bool ze) (.int .i64 wi) (.int .i64 gr) (.int .i64 pr) (.string ⟨T.toArray⟩) 24
          have hB : Below w.heap.size w (w.alloc (.cells #[.string f, .int .i64 al, .int .i64 si, .bool alt, .bool ze, .int .i64 wi, .int .i64 gr, .int .i64 pr, .string ⟨T.toArray⟩] 24)) := (Below.refl _ _).alloc (Nat.le_refl _) _
          have zz := za
          obtain ⟨x0, x1, x2, x3, x4, x5, x6, x7, x8, x9, xl⟩ := zz
          go_enter Tryz.func14, Tryz.ntmps14
          go_wp2_with (first | (go_at_call 39; (with_reducible refine Calls.mono (KV.out _) ?_); rintro r w1 ⟨rfl, hb⟩; replace hB := hB.trans (hb.mono hB.size); replace za := za.carry hb; have zz := za; obtain ⟨x0, x1, x2, x3, x4, x5, x6, x7, x8, x9, xl⟩ := zz) | (go_at_call 40; (with_reducible refine Calls.mono (KS.out _) ?_); rintro r w1 ⟨rfl, hb⟩; replace hB := hB.trans (hb.mono hB.size); replace za := za.carry hb; have zz := za; obtain ⟨x0, x1, x2, x3, x4, x5, x6, x7, x8, x9, xl⟩ := zz))
          all_goals go_ret2
          all_goals exact ⟨rfl, hB⟩
      · have hok : rwOk true al si alt ze gr pr t x = false := by unfold rwOk; rw [hc]; simp
        rw [hok, show rwN false gr t x = 0 from rfl, show rwB false gr t x = false from rfl]
        obtain rfl := c_type hc
        have KV := Lib.hid kv; have KS := Lib.hid ks
        clear kv ks hs hok hc V hv
        have za := C9.new w (.string f) (.int .i64 al) (.int .i64 si) (.bool alt) (.bool ze) (.int .i64 wi) (.int .i64 gr) (.int .i64 pr) (.string ⟨#[99]⟩) 24
        have hB : Below w.heap.size w (w.alloc (.cells #[.string f, .int .i64 al, .int .i64 si, .bool alt, .bool ze, .int .i64 wi, .int .i64 gr, .int .i64 pr, .string ⟨#[99]⟩] 24)) := (Below.refl _ _).alloc (Nat.le_refl _) _
        have zz := za
        obtain ⟨x0, x1, x2, x3, x4, x5, x6, x7, x8, x9, xl⟩ := zz
        go_enter Tryz.func14, Tryz.ntmps14
        go_wp2_with (first | (go_at_call 39; (with_reducible refine Calls.mono (KV.out _) ?_); rintro r w1 ⟨rfl, hb⟩; replace hB := hB.trans (hb.mono hB.size); replace za := za.carry hb; have zz := za; obtain ⟨x0, x1, x2, x3, x4, x5, x6, x7, x8, x9, xl⟩ := zz) | (go_at_call 40; (with_reducible refine Calls.mono (KS.out _) ?_); rintro r w1 ⟨rfl, hb⟩; replace hB := hB.trans (hb.mono hB.size); replace za := za.carry hb; have zz := za; obtain ⟨x0, x1, x2, x3, x4, x5, x6, x7, x8, x9, xl⟩ := zz))
        all_goals go_ret2
        all_goals exact ⟨rfl, hB⟩
end Go.Proofs.YtcbpocpkfmbaoaaGreatDoor
