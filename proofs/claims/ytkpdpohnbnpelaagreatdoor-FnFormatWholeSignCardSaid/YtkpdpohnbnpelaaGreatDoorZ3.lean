import Derived.Test.YtkpdpohnbnpelaaGreatDoorZ2
namespace Go.Proofs.YtkpdpohnbnpelaaGreatDoor
open Go.RowKit
set_option maxRecDepth 100000 in
set_option maxHeartbeats 4000000 in
theorem paddedS_any (H B : List UInt8) (wi : Nat) (c : UInt8) (al : Int) (w : World) (hH : H.length ≤ 200) (hB : B.length ≤ 400) (hw : wi ≤ 30) (ha : 1 ≤ al ∧ al ≤ 4) :
    Calls Tryz.prog 47 #[.string ⟨H.toArray⟩, .string ⟨B.toArray⟩, .int .i64 wi, .string ⟨#[c]⟩, .int .i64 al] w fun r w' => r = .returned (.string ⟨(padL H B wi c al).toArray⟩) ∧ Below w.heap.size w w' := by
  have hm : ((wi : Int) - H.length - B.length).toNat = wi - H.length - B.length := by omega
  have hm30 : wi - H.length - B.length ≤ 30 := by omega
  have kr := fun W => mBn (repeatS_any c (wi - H.length - B.length) (by omega) W)
  have kr1 := fun W => mBn (repeatS_any c ((wi - H.length - B.length) / 2) (by omega) W)
  have kr2 := fun W => mBn (repeatS_any c (wi - H.length - B.length - (wi - H.length - B.length) / 2) (by omega) W)
  have hal : al = 1 ∨ al = 2 ∨ al = 3 ∨ al = 4 := by omega
  have htd : ((wi - H.length - B.length : Nat) : Int).tdiv 2 = ((wi - H.length - B.length) / 2 : Nat) := tdivN (wi - H.length - B.length) 2
  have hdv : ((wi - H.length - B.length : Nat) : Int) / 2 = ((wi - H.length - B.length) / 2 : Nat) := by omega
  have hqq : (wi - H.length - B.length) / 2 ≤ wi - H.length - B.length := by omega
  have hmx : max (0 : Int) ((wi : Int) - H.length - B.length) = ((wi - H.length - B.length : Nat) : Int) := by omega
  have hsub : ((wi - H.length - B.length : Nat) : Int) - (((wi - H.length - B.length) / 2 : Nat) : Int) = ((wi - H.length - B.length - (wi - H.length - B.length) / 2 : Nat) : Int) := by omega
  unfold padL
  clear hm
  have l0 := rep_len c (wi - H.length - B.length)
  have l1 := rep_len c ((wi - H.length - B.length) / 2)
  have l2 := rep_len c (wi - H.length - B.length - (wi - H.length - B.length) / 2)
  have hr1 : (wi - H.length - B.length) / 2 ≤ 30 := by omega
  have hr2 : wi - H.length - B.length - (wi - H.length - B.length) / 2 ≤ 30 := by omega
  have hB0 := Below.refl w.heap.size w
  rcases hal with rfl | rfl | rfl | rfl
  all_goals (
    generalize hM : wi - H.length - B.length = m at *
    generalize m / 2 = q at *
    generalize m - q = p at *
    have w1 : IntKind.i64.wrap ((wi : Int) - H.length) = (wi : Int) - H.length := by rw [IntKind.wrap_i64]; omega
    have hwq : IntKind.i64.wrap (q : Int) = q := IntWalk.i64_in _ (by omega)
    have i1 : ¬ (q : Int) < 0 := by omega
    generalize rep c m = A at *
    generalize rep c q = A1 at *
    generalize rep c p = A2 at *
    have KR := Lib.hid kr; have KR1 := Lib.hid kr1; have KR2 := Lib.hid kr2
    clear kr kr1 kr2 hM
    go_enter Tryz.func47, Tryz.ntmps47
    go_wp2_with (first | (go_at_call 78; (with_reducible refine Calls.mono (KR.out _) ?_); rintro r w1 ⟨rfl, hb⟩; replace hB0 := hB0.trans (hb.mono hB0.size)) | (go_at_call 78; (with_reducible refine Calls.mono (KR1.out _) ?_); rintro r w1 ⟨rfl, hb⟩; replace hB0 := hB0.trans (hb.mono hB0.size)) | (go_at_call 78; (with_reducible refine Calls.mono (KR2.out _) ?_); rintro r w1 ⟨rfl, hb⟩; replace hB0 := hB0.trans (hb.mono hB0.size)))
    all_goals go_ret
    all_goals exact ⟨ret_str (by simp [cat_l]), by first | exact hB0 | exact hB0.drew⟩)
/-- the fill's byte -/
def fcB (f : ByteArray) (ze : Bool) : UInt8 := match f.data.toList with | [] => if ze then 48 else 32 | b :: _ => b
theorem fill_one {f : ByteArray} {al : Int} {ze : Bool} (h : okFill f al = true) : fillW true f ze = ⟨#[fcB f ze]⟩ := by
  rcases okFill_cases h with rfl | ⟨b, rfl⟩
  · cases ze <;> rfl
  · rfl
theorem alW_in {al : Int} (ze : Bool) (h0 : 0 ≤ al) (h4 : al ≤ 4) : 1 ≤ alW al ze 0 ∧ alW al ze 0 ≤ 4 := by
  unfold alW
  split
  · cases ze <;> simp
  · omega
/-- how wide the digits are to be with zeros ahead -/
def zuN (c : UInt8) (a : Int) (wi others : Nat) : Nat := if c = 48 ∧ a = 4 then wi - others else 0
theorem zu_le {c : UInt8} {a : Int} {wi others : Nat} : zuN c a wi others ≤ wi := by unfold zuN; split <;> omega
set_option maxRecDepth 100000 in
set_option maxHeartbeats 4000000 in
theorem zerosUpTo_any (f : ByteArray) (al si : Int) (alt ze : Bool) (wi : Nat) (gr pr : Int) (t : ByteArray) (others : Nat) (c : UInt8) (a : Int) (w : World) (hw : wi ≤ 30)
    (kf : ∀ W, Calls Tryz.prog 25 #[.agg #[.string f, .int .i64 al, .int .i64 si, .bool alt, .bool ze, .int .i64 wi, .int .i64 gr, .int .i64 pr, .string t]] W fun r w' => r = .returned (.string ⟨#[c]⟩) ∧ Below W.heap.size W w')
    (ka : ∀ W, Calls Tryz.prog 26 #[.agg #[.string f, .int .i64 al, .int .i64 si, .bool alt, .bool ze, .int .i64 wi, .int .i64 gr, .int .i64 pr, .string t], .int .i64 0] W fun r w' => r = .returned (.int .i64 a) ∧ Below W.heap.size W w') (ho : others ≤ 100) :
    Calls Tryz.prog 64 #[.agg #[.string f, .int .i64 al, .int .i64 si, .bool alt, .bool ze, .int .i64 wi, .int .i64 gr, .int .i64 pr, .string t], .int .i64 0, .int .i64 others] w fun r w' => r = .returned (.int .i64 ((zuN c a wi others : Nat) : Int)) ∧ Below w.heap.size w w' := by
  have kg := fun W => mBn (greater_pos ((wi : Int) - others) (by omega) W)
  rw [show ((wi : Int) - others).toNat = wi - others by omega] at kg
  have KF := Lib.hid kf; have KA := Lib.hid ka; have KG := Lib.hid kg
  clear kf ka kg
  by_cases hc : c = 48
  · subst hc
    by_cases h4 : a = 4
    · subst h4
      rw [show zuN 48 4 wi others = wi - others from if_pos ⟨rfl, rfl⟩]
      generalize wi - others = m at *
      have za := C9.new w (.string f) (.int .i64 al) (.int .i64 si) (.bool alt) (.bool ze) (.int .i64 wi) (.int .i64 gr) (.int .i64 pr) (.string t) 26
      have hB : Below w.heap.size w (w.alloc (.cells #[.string f, .int .i64 al, .int .i64 si, .bool alt, .bool ze, .int .i64 wi, .int .i64 gr, .int .i64 pr, .string t] 26)) := (Below.refl _ _).alloc (Nat.le_refl _) _
      have zz := za
      obtain ⟨x0, x1, x2, x3, x4, x5, x6, x7, x8, x9, xl⟩ := zz
      go_enter Tryz.func64, Tryz.ntmps64
      go_wp2_with (first | (go_at_call 25; (with_reducible refine Calls.mono (KF.out _) ?_); rintro r w1 ⟨rfl, hb⟩; replace hB := hB.trans (hb.mono hB.size); replace za := za.carry hb; have zz := za; obtain ⟨x0, x1, x2, x3, x4, x5, x6, x7, x8, x9, xl⟩ := zz) | (go_at_call 26; (with_reducible refine Calls.mono (KA.out _) ?_); rintro r w1 ⟨rfl, hb⟩; replace hB := hB.trans (hb.mono hB.size); replace za := za.carry hb; have zz := za; obtain ⟨x0, x1, x2, x3, x4, x5, x6, x7, x8, x9, xl⟩ := zz) | (go_at_call 59; (with_reducible refine Calls.mono (KG.out _) ?_); rintro r w1 ⟨rfl, hb⟩; replace hB := hB.trans (hb.mono hB.size); replace za := za.carry hb; have zz := za; obtain ⟨x0, x1, x2, x3, x4, x5, x6, x7, x8, x9, xl⟩ := zz))
      all_goals go_ret
      all_goals exact ⟨rfl, hB⟩
    · rw [show zuN 48 a wi others = 0 from if_neg (fun h => h4 h.2)]
      have e4 : (a == 4) = false := by simpa using h4
      have e5 : (a != 4) = true := by simp [bne, e4]
      have za := C9.new w (.string f) (.int .i64 al) (.int .i64 si) (.bool alt) (.bool ze) (.int .i64 wi) (.int .i64 gr) (.int .i64 pr) (.string t) 26
      have hB : Below w.heap.size w (w.alloc (.cells #[.string f, .int .i64 al, .int .i64 si, .bool alt, .bool ze, .int .i64 wi, .int .i64 gr, .int .i64 pr, .string t] 26)) := (Below.refl _ _).alloc (Nat.le_refl _) _
      have zz := za
      obtain ⟨x0, x1, x2, x3, x4, x5, x6, x7, x8, x9, xl⟩ := zz
      go_enter Tryz.func64, Tryz.ntmps64
      go_wp2_with (first | (go_at_call 25; (with_reducible refine Calls.mono (KF.out _) ?_); rintro r w1 ⟨rfl, hb⟩; replace hB := hB.trans (hb.mono hB.size); replace za := za.carry hb; have zz := za; obtain ⟨x0, x1, x2, x3, x4, x5, x6, x7, x8, x9, xl⟩ := zz) | (go_at_call 26; (with_reducible refine Calls.mono (KA.out _) ?_); rintro r w1 ⟨rfl, hb⟩; replace hB := hB.trans (hb.mono hB.size); replace za := za.carry hb; have zz := za; obtain ⟨x0, x1, x2, x3, x4, x5, x6, x7, x8, x9, xl⟩ := zz) | (go_at_call 59; (with_reducible refine Calls.mono (KG.out _) ?_); rintro r w1 ⟨rfl, hb⟩; replace hB := hB.trans (hb.mono hB.size); replace za := za.carry hb; have zz := za; obtain ⟨x0, x1, x2, x3, x4, x5, x6, x7, x8, x9, xl⟩ := zz))
      all_goals go_ret
      all_goals exact ⟨rfl, hB⟩
  · rw [show zuN c a wi others = 0 from if_neg (fun h => hc h.1)]
    have hne : (([c] : List UInt8) == [48]) = false := by simpa using hc
    have hne2 : ¬ ([c] : List UInt8) = [48] := by simpa using hc
    have za := C9.new w (.string f) (.int .i64 al) (.int .i64 si) (.bool alt) (.bool ze) (.int .i64 wi) (.int .i64 gr) (.int .i64 pr) (.string t) 26
    have hB : Below w.heap.size w (w.alloc (.cells #[.string f, .int .i64 al, .int .i64 si, .bool alt, .bool ze, .int .i64 wi, .int .i64 gr, .int .i64 pr, .string t] 26)) := (Below.refl _ _).alloc (Nat.le_refl _) _
    have zz := za
    obtain ⟨x0, x1, x2, x3, x4, x5, x6, x7, x8, x9, xl⟩ := zz
    go_enter Tryz.func64, Tryz.ntmps64
    go_wp2_with (first | (go_at_call 25; (with_reducible refine Calls.mono (KF.out _) ?_); rintro r w1 ⟨rfl, hb⟩; replace hB := hB.trans (hb.mono hB.size); replace za := za.carry hb; have zz := za; obtain ⟨x0, x1, x2, x3, x4, x5, x6, x7, x8, x9, xl⟩ := zz) | (go_at_call 26; (with_reducible refine Calls.mono (KA.out _) ?_); rintro r w1 ⟨rfl, hb⟩; replace hB := hB.trans (hb.mono hB.size); replace za := za.carry hb; have zz := za; obtain ⟨x0, x1, x2, x3, x4, x5, x6, x7, x8, x9, xl⟩ := zz) | (go_at_call 59; (with_reducible refine Calls.mono (KG.out _) ?_); rintro r w1 ⟨rfl, hb⟩; replace hB := hB.trans (hb.mono hB.size); replace za := za.carry hb; have zz := za; obtain ⟨x0, x1, x2, x3, x4, x5, x6, x7, x8, x9, xl⟩ := zz))
    all_goals go_ret
    all_goals exact ⟨rfl, hB⟩
end Go.Proofs.YtkpdpohnbnpelaaGreatDoor
