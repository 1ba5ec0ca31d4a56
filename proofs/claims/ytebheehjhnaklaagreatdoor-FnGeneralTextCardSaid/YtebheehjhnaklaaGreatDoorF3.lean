import Derived.Test.YtebheehjhnaklaaGreatDoorTL
import Derived.Test.YtebheehjhnaklaaGreatDoorF2
namespace Go.Proofs.YtebheehjhnaklaaGreatDoor
open Go Go.RowKit
theorem set3 {w1 : World} {b : Nat} {a0 a1 a2 : Value} (h0 : w1.cell? ⟨b, 0, none⟩ = some a0) (h1 : w1.cell? ⟨b, 1, none⟩ = some a1) (h2 : w1.cell? ⟨b, 2, none⟩ = some a2) (x y z : Value) :
    (((w1.setCell ⟨b, 0, none⟩ x).setCell ⟨b, 1, none⟩ y).setCell ⟨b, 2, none⟩ z).cell? ⟨b, 0, none⟩ = some x ∧
    (((w1.setCell ⟨b, 0, none⟩ x).setCell ⟨b, 1, none⟩ y).setCell ⟨b, 2, none⟩ z).cell? ⟨b, 1, none⟩ = some y ∧
    (((w1.setCell ⟨b, 0, none⟩ x).setCell ⟨b, 1, none⟩ y).setCell ⟨b, 2, none⟩ z).cell? ⟨b, 2, none⟩ = some z := by
  refine ⟨?_, ?_, ?_⟩ <;> simp [h0, h1, h2, go_sem]
theorem cutD_pt {l : List UInt8} (h : ∀ b, b ∈ l → IsDg b ∨ b = 46) : cutD l = l ∧ cutN l = false := by
  cases l with
  | nil => exact ⟨rfl, rfl⟩
  | cons c r =>
    have hc := h c (by simp)
    have n1 := dg_ne (k := 45) hc (by decide)
    have n2 := dg_ne (k := 43) hc (by decide)
    have n3 := dg_ne (k := 32) hc (by decide)
    have e : isSign c = false := by rw [isSign_eq]; simp [n1, n2, n3]
    exact ⟨by simp [cutD, e], cutN_no e⟩
theorem Cut_pt {A B : List UInt8} (hA : ∀ b, b ∈ A → IsDg b) (hl : A.length + B.length ≤ 70) : ∃ f, ∀ W, HasMax W →
    Calls Tryz.prog 55 #[.string ⟨(ptL A B).toArray⟩, .string ⟨#[46]⟩] W fun r w' => r = .returned (.tuple #[.string ⟨A.toArray⟩, .string ⟨B.toArray⟩, .bool f]) ∧ Below W.heap.size W w' := by
  refine ⟨(Lib.cut (ptL A B) [46]).2.2, fun W hM => ?_⟩
  obtain ⟨_, m, hm⟩ := hM
  have hT := ptL_len (A := A) (B := B) hl
  have k := Tryz.strings_Cut ⟨(ptL A B).toArray⟩ ⟨#[46]⟩ m W (by show (ptL A B).length < _; omega) hm
  obtain ⟨e1, e2⟩ := cut_pt (B := B) hA
  refine k.mono ?_
  rintro r w1 ⟨rfl, n, rfl⟩
  refine ⟨?_, below_drewN (Below.refl _ _) _⟩
  show Ending.returned (Value.tuple #[.string ⟨(Lib.cut (ptL A B) [46]).1.toArray⟩, .string ⟨(Lib.cut (ptL A B) [46]).2.1.toArray⟩, .bool (Lib.cut (ptL A B) [46]).2.2]) = _
  rw [e1, e2]
theorem CutSuffix_pt {A B : List UInt8} (hA : ∀ b, b ∈ A → IsDg b) (hB : ∀ b, b ∈ B → IsDg b) (hl : A.length + B.length ≤ 70) (W : World) :
    Calls Tryz.prog 53 #[.string ⟨(ptL A B).toArray⟩, .string ⟨#[37]⟩] W fun r w' => r = .returned (.tuple #[.string ⟨(ptL A B).toArray⟩, .bool false]) ∧ W = w' := by
  have hT := ptL_len (A := A) (B := B) hl
  have k := Tryz.strings_CutSuffix ⟨(ptL A B).toArray⟩ ⟨#[37]⟩ W (by show (ptL A B).length ≤ _; omega)
  have e := suf_none (ptL_mem hA hB)
  refine k.mono ?_
  rintro r w1 ⟨rfl, rfl⟩
  refine ⟨?_, rfl⟩
  show Ending.returned (Value.tuple #[.string ⟨(Lib.trimSuffix (ptL A B) [37]).toArray⟩, .bool (Lib.hasSuffix (ptL A B) [37])]) = _
  unfold Lib.trimSuffix
  rw [e]
  rfl
set_option maxRecDepth 100000 in
set_option maxHeartbeats 4000000 in
theorem ReadReal_pt (A B : List UInt8) (v x : Int) (w : World) (hM : HasMax w) (hA : ∀ b, b ∈ A → IsDg b) (hB : ∀ b, b ∈ B → IsDg b) (hne : 1 ≤ A.length) (hl : A.length + B.length ≤ 70)
    (hv : vRun 10 (48 :: trR 48 (A ++ B)) 0 = v) (v0 : 0 ≤ v) (v1 : v ≤ 999999999999) (hx : (A.length : Int) - (trR 48 (A ++ B)).length = x) (x0 : -24 ≤ x) (x1 : x ≤ 24) :
    Calls Tryz.prog 13 #[.string ⟨(ptL A B).toArray⟩] w fun r w' =>
      r = .returned (.tuple #[.agg #[.bool (Fd.fit1 ⟨false, v, x⟩).1.n, .int .i64 (Fd.fit1 ⟨false, v, x⟩).1.c, .int .i64 (Fd.fit1 ⟨false, v, x⟩).1.e], .bool (Fd.fit1 ⟨false, v, x⟩).2]) ∧ Below w.heap.size w w' := by
  have zb := C3.new w (.bool false) (.int .i64 0) (.int .i64 0) 24
  have hB0 : Below w.heap.size w (w.alloc (.cells #[.bool false, .int .i64 0, .int .i64 0] 24)) := Below.alloc (Below.refl _ _) (Nat.le_refl _) _
  have zz := zb
  obtain ⟨y0, y1, y2, y3, y4, y5, y6⟩ := zz
  have hm := ptL_mem hA hB
  have hT := ptL_len (A := A) (B := B) hl
  have k1 := fun W => cutSign_any (ptL A B) (by omega) W
  rw [(cutD_pt hm).1, (cutD_pt hm).2] at k1
  have k2 := fun W => CutSuffix_pt hA hB hl W
  have k3 := fun W => cutPower_pt (ptL A B) hm (by omega) W
  obtain ⟨f, k4⟩ := Cut_pt (B := B) hA hl
  have k5 := fun W => TrimRight_one ⟨(A ++ B).toArray⟩ 48 (by decide) (by show (A ++ B).length ≤ _; rw [List.length_append]; omega) W
  rw [show trRB 48 ⟨(A ++ B).toArray⟩ = ⟨(trR 48 (A ++ B)).toArray⟩ from rfl] at k5
  have rl := trR_len 48 (A ++ B)
  rw [List.length_append] at rl
  have k6 := fun W => ValueIn_any ⟨(48 :: trR 48 (A ++ B)).toArray⟩ 10 (by show (48 :: trR 48 (A ++ B)).length ≤ _; rw [List.length_cons]; omega) W
  rw [show valW ⟨(48 :: trR 48 (A ++ B)).toArray⟩ 10 = v from hv] at k6
  have k7 := fun W => fitted_any false v x W v0 (by omega) x0 x1
  have q0 : (A ++ B).isEmpty = false := by
    cases A with
    | nil => simp at hne
    | cons a r => rfl
  have c1 := cat_lN A B
  have c2 := cat_lN [48] (trR 48 (A ++ B))
  generalize trR 48 (A ++ B) = R at *
  generalize (Fd.fit1 ⟨false, v, x⟩) = F at *
  generalize ptL A B = T at *
  have hx' : (A.length : Int) + B.length - R.length - B.length = x := by omega
  have k7 : ∀ W, Calls Tryz.prog 58 #[.agg #[.bool false, .int .i64 v, .int .i64 ((A.length : Int) + B.length - R.length - B.length)]] W fun r w' => r = .returned (.tuple #[.agg #[.bool F.1.n, .int .i64 F.1.c, .int .i64 F.1.e], .bool F.2]) ∧ Below W.heap.size W w' := fun W => by rw [hx']; exact k7 W
  clear hx'
  have K1 := Lib.hid k1; have K2 := Lib.hid k2; have K3 := Lib.hid k3; have K4 := Lib.hid k4; have K5 := Lib.hid k5; have K6 := Lib.hid k6; have K7 := Lib.hid k7
  clear k1 k2 k3 k4 k5 k6 k7 hm hA hB hv hx
  have q1 : ¬ (9223372036854775807 < A.length + B.length) := by omega
  have q2 : ¬ (9223372036854775807 < 1 + R.length) := by omega
  have q3 : ¬ (9223372036854775807 < R.length + 1) := by omega
  go_enter Tryz.func13, Tryz.ntmps13
  go_wp2_with (first
    | (go_at_call 52; (with_reducible refine Calls.mono (K1.out _) ?_); rintro r w1 ⟨rfl, hb⟩; replace hB0 := hB0.trans (hb.mono hB0.size); have hz := hB0.size; replace zb := C3.carry zb hb; have zz := zb; obtain ⟨y0, y1, y2, y3, y4, y5, y6⟩ := zz)
    | (go_at_call 53; (with_reducible refine Calls.mono (K2.out _) ?_); rintro r w1 ⟨rfl, rfl⟩)
    | (go_at_call 54; (with_reducible refine Calls.mono (K3.out _) ?_); rintro r w1 ⟨rfl, hb⟩; replace hB0 := hB0.trans (hb.mono hB0.size); have hz := hB0.size; replace zb := C3.carry zb hb; have zz := zb; obtain ⟨y0, y1, y2, y3, y4, y5, y6⟩ := zz)
    | (go_at_call 55; (with_reducible refine Calls.mono (K4.out _ (hM.on hB0)) ?_); rintro r w1 ⟨rfl, hb⟩; replace hB0 := hB0.trans (hb.mono hB0.size); have hz := hB0.size; replace zb := C3.carry zb hb; have zz := zb; obtain ⟨y0, y1, y2, y3, y4, y5, y6⟩ := zz)
    | (go_at_call 56; (with_reducible refine Calls.mono (K5.out _) ?_); rintro r w1 ⟨rfl, rfl⟩)
    | (go_at_call 57; (with_reducible refine Calls.mono (K6.out _) ?_); rintro r w1 ⟨rfl, rfl⟩)
    | (go_at_call 58; (with_reducible refine Calls.mono (K7.out _) ?_); rintro r w1 ⟨rfl, hb⟩; replace hB0 := hB0.trans (hb.mono hB0.size); have hz := hB0.size; replace zb := C3.carry zb hb; have zz := zb; obtain ⟨y0, y1, y2, y3, y4, y5, y6⟩ := zz))
  have s0 := y0; have s1 := y1; have s2 := y2
  obtain ⟨t0, t1, t2⟩ := set3 y0 y1 y2 (.bool F.1.n) (.int .i64 F.1.c) (.int .i64 F.1.e)
  exact bodyPost_ret (v := .tuple #[.agg #[.bool F.1.n, .int .i64 F.1.c, .int .i64 F.1.e], .bool F.2]) (by simp [results, Tryz.results13, go_sem, *]) rfl ⟨rfl, (by repeat (first | with_reducible exact Below.refl _ _ | with_reducible assumption | with_reducible refine Below.setCell ?_ (by first | omega | (simp; done) | (simp <;> omega)) _ | with_reducible refine below_drewN ?_ _ | with_reducible refine Below.drew ?_ | with_reducible refine Below.alloc ?_ (by first | omega | (simp; done) | (simp <;> omega)) _))⟩
end Go.Proofs.YtebheehjhnaklaaGreatDoor
