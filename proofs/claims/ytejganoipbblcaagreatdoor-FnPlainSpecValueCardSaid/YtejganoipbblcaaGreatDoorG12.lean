import Derived.Test.YtejganoipbblcaaGreatDoorG9
import Derived.Test.YtejganoipbblcaaGreatDoorG10
import Derived.Test.YtejganoipbblcaaGreatDoorG11
namespace Go.Proofs.YtejganoipbblcaaGreatDoor
open Go Go.RowKit
/-- the text of an amount with its digits, sign, groups and fill -/
def frL (fc : UInt8) (a si : Int) (alt : Bool) (wi : Nat) (gr : Int) (n : Bool) (A B T : List UInt8) : List UInt8 :=
  if fc = 48 ∧ a = 4 then sgnL si (n && !zdB (A ++ B)) ++ (widL A (wi - (sgnL si (n && !zdB (A ++ B))).length - (restL B T alt).length) 3 (mkL gr) ++ restL B T alt)
  else padL (sgnL si (n && !zdB (A ++ B))) (joinL 3 (mkL gr) A ++ restL B T alt) wi fc a
theorem rest_tail (B T : List UInt8) (alt : Bool) : restL B [] alt ++ T = restL B T alt := by
  unfold restL
  by_cases h : B = [] ∧ alt = false
  · rw [if_pos h, if_pos h]; rfl
  · rw [if_neg h, if_neg h]; simp
theorem rest_le (B T : List UInt8) (alt : Bool) : (restL B T alt).length ≤ B.length + T.length + 1 := by
  unfold restL
  split
  · omega
  · rw [List.length_cons, List.length_append]; omega
/-- an amount as both sides have it -/
structure AmL (A B T : List UInt8) : Prop where
  la : A.length ≤ 70
  lb : B.length ≤ 70
  lt : T.length ≤ 5
  da : DgL A
  db : DgL B
set_option maxRecDepth 100000 in
set_option maxHeartbeats 8000000 in
theorem formatRealS_ok (f : ByteArray) (al si : Int) (alt ze : Bool) (wi : Nat) (gr pr : Int) (t : List UInt8) (n : Bool) (c e : Int) (A B T : List UInt8) (fc : UInt8) (a : Int) (w : World) (L : AmL A B T) (hw : wi ≤ 30) (hg0 : 0 ≤ gr) (hg2 : gr ≤ 2) (ha : 1 ≤ a ∧ a ≤ 4) (hT : TyR t)
    (kr : ∀ W, Calls Tryz.prog 103 #[.agg #[.string f, .int .i64 al, .int .i64 si, .bool alt, .bool ze, .int .i64 (wi : Nat), .int .i64 gr, .int .i64 pr, .string ⟨t.toArray⟩], .agg #[.bool n, .int .i64 c, .int .i64 e]] W fun r w' => r = .returned (.tuple #[.string ⟨A.toArray⟩, .string ⟨B.toArray⟩, .string ⟨T.toArray⟩]) ∧ Below W.heap.size W w')
    (kf : ∀ W, Calls Tryz.prog 44 #[.agg #[.string f, .int .i64 al, .int .i64 si, .bool alt, .bool ze, .int .i64 (wi : Nat), .int .i64 gr, .int .i64 pr, .string ⟨t.toArray⟩]] W fun r w' => r = .returned (.string ⟨#[fc]⟩) ∧ Below W.heap.size W w')
    (ka : ∀ W, Calls Tryz.prog 45 #[.agg #[.string f, .int .i64 al, .int .i64 si, .bool alt, .bool ze, .int .i64 (wi : Nat), .int .i64 gr, .int .i64 pr, .string ⟨t.toArray⟩], .int .i64 0] W fun r w' => r = .returned (.int .i64 a) ∧ Below W.heap.size W w') :
    Calls Tryz.prog 66 #[.agg #[.string f, .int .i64 al, .int .i64 si, .bool alt, .bool ze, .int .i64 (wi : Nat), .int .i64 gr, .int .i64 pr, .string ⟨t.toArray⟩], .agg #[.bool n, .int .i64 c, .int .i64 e]] w fun r w' => r = .returned (.string ⟨(frL fc a si alt wi gr n A B T).toArray⟩) ∧ Below w.heap.size w w' := by
  obtain ⟨la, lb, lt, da, db⟩ := L
  have kn := fun W => nothingS_any ⟨(A ++ B).toArray⟩ (by show (A ++ B).length ≤ _; rw [List.length_append]; omega) W
  rw [show ntB (⟨(A ++ B).toArray⟩ : ByteArray).data.toList = zdB (A ++ B) from nt_zd (da.app db)] at kn
  have kg := fun W => mBn (signTextS_any si (n && !zdB (A ++ B)) W)
  have kp := fun W => mBn (pointedS_any B alt W (by omega))
  have hsl := sgn_len si (n && !zdB (A ++ B))
  have hrl := rest_le B T alt
  have hrl0 := rest_le B [] alt
  have kl := fun W => laidR_any f al si alt ze wi gr pr t (sgnL si (n && !zdB (A ++ B))) A (restL B T alt) fc a W hw (by omega) (by omega) (by omega) hg0 hg2 ha kf (groupSizeR t hT) ka
  change ∀ W, Calls Tryz.prog 104 #[.agg #[.string f, .int .i64 al, .int .i64 si, .bool alt, .bool ze, .int .i64 (wi : Nat), .int .i64 gr, .int .i64 pr, .string ⟨t.toArray⟩], .string ⟨(sgnL si (n && !zdB (A ++ B))).toArray⟩, .string ⟨A.toArray⟩, .string ⟨(restL B T alt).toArray⟩] W fun r w' => r = .returned (.string ⟨(frL fc a si alt wi gr n A B T).toArray⟩) ∧ Below W.heap.size W w' at kl
  have c1 := cat_lN A B
  have c2 := cat_lN (restL B [] alt) T
  rw [rest_tail] at c2
  have q1 : ¬ (9223372036854775807 < A.length + B.length) := by omega
  have q2 : ¬ (9223372036854775807 < (restL B [] alt).length + T.length) := by rw [List.length_nil] at hrl0; omega
  generalize frL fc a si alt wi gr n A B T = R at *
  generalize restL B T alt = E at *
  generalize restL B [] alt = E0 at *
  generalize zdB (A ++ B) = zb at *
  generalize A ++ B = AB at *
  clear hsl hrl hrl0 da db
  have za := (C9.new w (.string f) (.int .i64 al) (.int .i64 si) (.bool alt) (.bool ze) (.int .i64 (wi : Nat)) (.int .i64 gr) (.int .i64 pr) (.string ⟨t.toArray⟩) 24).up (.cells #[.bool n, .int .i64 c, .int .i64 e] 31)
  have zd : C3 ((w.alloc (.cells #[.string f, .int .i64 al, .int .i64 si, .bool alt, .bool ze, .int .i64 (wi : Nat), .int .i64 gr, .int .i64 pr, .string ⟨t.toArray⟩] 24)).alloc (.cells #[.bool n, .int .i64 c, .int .i64 e] 31)) (w.heap.size + 1) (.bool n) (.int .i64 c) (.int .i64 e) := by
    have h := C3.new (w.alloc (.cells #[.string f, .int .i64 al, .int .i64 si, .bool alt, .bool ze, .int .i64 (wi : Nat), .int .i64 gr, .int .i64 pr, .string ⟨t.toArray⟩] 24)) (.bool n) (.int .i64 c) (.int .i64 e) 31
    rw [show (w.alloc (.cells #[.string f, .int .i64 al, .int .i64 si, .bool alt, .bool ze, .int .i64 (wi : Nat), .int .i64 gr, .int .i64 pr, .string ⟨t.toArray⟩] 24)).heap.size = w.heap.size + 1 by simp] at h
    exact h
  have hB : Below w.heap.size w ((w.alloc (.cells #[.string f, .int .i64 al, .int .i64 si, .bool alt, .bool ze, .int .i64 (wi : Nat), .int .i64 gr, .int .i64 pr, .string ⟨t.toArray⟩] 24)).alloc (.cells #[.bool n, .int .i64 c, .int .i64 e] 31)) := ((Below.refl _ _).alloc (Nat.le_refl _) _).alloc (by simp) _
  have KR := Lib.hid kr; have KN := Lib.hid kn; have KP := Lib.hid kp
  clear kr kn kp kf ka
  cases n
  · rw [Bool.false_and] at kg kl
    generalize sgnL si false = H at *
    have KG := Lib.hid kg; have KL := Lib.hid kl
    clear kg kl
    go_enter Tryz.func66, Tryz.ntmps66
    go_wp2_with (first | (go_at_call 103; (with_reducible refine Calls.mono (KR.out _) ?_); rintro r w1 ⟨rfl, hb⟩; replace hB := hB.trans (hb.mono hB.size); have hz := hb.size; replace za := C9.carry za hb; have zz := za; obtain ⟨za_x0, za_x1, za_x2, za_x3, za_x4, za_x5, za_x6, za_x7, za_x8, za_xf, za_xl⟩ := zz; replace zd := C3.carry zd hb; have zz := zd; obtain ⟨zd_0, zd_1, zd_2, zd_3, zd_4, zd_5, zd_6⟩ := zz))
    obtain ⟨sza0, sza1, sza2, sza3, sza4, sza5, sza6, sza7, sza8⟩ := C9.since za
    obtain ⟨szd0, szd1, szd2⟩ := C3.since zd
    refine wp_region_since (by kernel_rfl) (by kernel_rfl) ?_
    repeat (quiet_step (first | (go_at_call 106; with_reducible exact Calls.since_of (KN.out _)) | (go_at_call 105; with_reducible exact Calls.since_of (KG.out _)) | (go_at_call 107; with_reducible exact Calls.since_of (KP.out _)) | (go_at_call 104; with_reducible exact Calls.since_of (KL.out _))))
    refine wpQuiet_nil ?_
    intro w_ hw_
    obtain ⟨⟨w1, hb⟩, hw2⟩ := hw_
    have hw3 : w1 = w_ := hw2.symm
    clear hw2
    subst hw3
    clear sza0 sza1 sza2 sza3 sza4 sza5 sza6 sza7 sza8 szd0 szd1 szd2
    replace hB := hB.trans (hb.mono hB.size)
    have hz := hb.size
    replace za := C9.carry za hb
    have zz := za
    obtain ⟨za_x0, za_x1, za_x2, za_x3, za_x4, za_x5, za_x6, za_x7, za_x8, za_xf, za_xl⟩ := zz
    replace zd := C3.carry zd hb
    have zz := zd
    obtain ⟨zd_0, zd_1, zd_2, zd_3, zd_4, zd_5, zd_6⟩ := zz
    go_wp2
    go_ret
    exact ⟨rfl, hB⟩
  · rw [Bool.true_and] at kg kl
    generalize hH : sgnL si (!zb) = H at *
    clear hH
    have KG := Lib.hid kg; have KL := Lib.hid kl
    clear kg kl
    go_enter Tryz.func66, Tryz.ntmps66
    go_wp2_with (first | (go_at_call 103; (with_reducible refine Calls.mono (KR.out _) ?_); rintro r w1 ⟨rfl, hb⟩; replace hB := hB.trans (hb.mono hB.size); have hz := hb.size; replace za := C9.carry za hb; have zz := za; obtain ⟨za_x0, za_x1, za_x2, za_x3, za_x4, za_x5, za_x6, za_x7, za_x8, za_xf, za_xl⟩ := zz; replace zd := C3.carry zd hb; have zz := zd; obtain ⟨zd_0, zd_1, zd_2, zd_3, zd_4, zd_5, zd_6⟩ := zz))
    obtain ⟨sza0, sza1, sza2, sza3, sza4, sza5, sza6, sza7, sza8⟩ := C9.since za
    obtain ⟨szd0, szd1, szd2⟩ := C3.since zd
    refine wp_region_since (by kernel_rfl) (by kernel_rfl) ?_
    repeat (quiet_step (first | (go_at_call 106; with_reducible exact Calls.since_of (KN.out _)) | (go_at_call 105; with_reducible exact Calls.since_of (KG.out _)) | (go_at_call 107; with_reducible exact Calls.since_of (KP.out _)) | (go_at_call 104; with_reducible exact Calls.since_of (KL.out _))))
    refine wpQuiet_nil ?_
    intro w_ hw_
    obtain ⟨⟨w1, hb⟩, hw2⟩ := hw_
    have hw3 : w1 = w_ := hw2.symm
    clear hw2
    subst hw3
    clear sza0 sza1 sza2 sza3 sza4 sza5 sza6 sza7 sza8 szd0 szd1 szd2
    replace hB := hB.trans (hb.mono hB.size)
    have hz := hb.size
    replace za := C9.carry za hb
    have zz := za
    obtain ⟨za_x0, za_x1, za_x2, za_x3, za_x4, za_x5, za_x6, za_x7, za_x8, za_xf, za_xl⟩ := zz
    replace zd := C3.carry zd hb
    have zz := zd
    obtain ⟨zd_0, zd_1, zd_2, zd_3, zd_4, zd_5, zd_6⟩ := zz
    go_wp2
    go_ret
    exact ⟨rfl, hB⟩
end Go.Proofs.YtejganoipbblcaaGreatDoor
