import Derived.Test.YtffdgpahbdmacaaZ2
namespace Go.Proofs.Ytffdgpahbdmacaa
open Go.RowKit
set_option maxRecDepth 100000 in
set_option maxHeartbeats 4000000 in
theorem paddedS_any (H B : List UInt8) (wi : Nat) (c : UInt8) (al : Int) (w : World) (hH : H.length ≤ 200) (hB : B.length ≤ 400) (hw : wi ≤ 30) (ha : 1 ≤ al ∧ al ≤ 4) :
    Calls Try.prog 82 #[.string ⟨H.toArray⟩, .string ⟨B.toArray⟩, .int .i64 wi, .string ⟨#[c]⟩, .int .i64 al] w fun r w' => r = .returned (.string ⟨(padL H B wi c al).toArray⟩) ∧ Below w.heap.size w w' := by
  have hm : ((wi : Int) - H.length - B.length).toNat = wi - H.length - B.length := by omega
  have hm30 : wi - H.length - B.length ≤ 30 := by omega
  have kr := fun W => mBn (repeatS_any c (wi - H.length - B.length) (by omega) W)
  have kr1 := fun W => mBn (repeatS_any c ((wi - H.length - B.length) / 2) (by omega) W)
  have kr2 := fun W => mBn (repeatS_any c (wi - H.length - B.length - (wi - H.length - B.length) / 2) (by omega) W)
  have hal : al = 1 ∨ al = 2 ∨ al = 3 ∨ al = 4 := by omega
  have htd : ((wi - H.length - B.length : Nat) : Int).tdiv 2 = ((wi - H.length - B.length) / 2 : Nat) := tdivN (wi - H.length - B.length) 2
  have hdv : ((wi - H.length - B.length : Nat) : Int) / 2 = ((wi - H.length - B.length) / 2 : Nat) := by omega
  have hqq : (wi - H.length - B.length) / 2 ≤ wi - H.length - B.length := by omega
  have hmx : max (0 : Int) ((wi : Int) - H.length - B.length) = ((wi - H.length - B.length : Nat) : Int) := by omega
  have hsub : ((wi - H.length - B.length : Nat) : Int) - (((wi - H.length - B.length) / 2 : Nat) : Int) = ((wi - H.length - B.length - (wi - H.length - B.length) / 2 : Nat) : Int) := by omega
  unfold padL
  clear hm
  have l0 := rep_len c (wi - H.length - B.length)
  have l1 := rep_len c ((wi - H.length - B.length) / 2)
  have l2 := rep_len c (wi - H.length - B.length - (wi - H.length - B.length) / 2)
  have hr1 : (wi - H.length - B.length) / 2 ≤ 30 := by omega
  have hr2 : wi - H.length - B.length - (wi - H.length - B.length) / 2 ≤ 30 := by omega
  have hB0 := Below.refl w.heap.size w
  rcases hal with rfl | rfl | rfl | rfl
  all_goals (
    generalize hM : wi - H.length - B.length = m at *
    generalize m / 2 = q at *
    generalize m - q = p at *
    have w1 : IntKind.i64.wrap ((wi : Int) - H.length) = (wi : Int) - H.length := by rw [IntKind.wrap_i64]; omega
    have hwq : IntKind.i64.wrap (q : Int) = q := IntWalk.i64_in _ (by omega)
    have i1 : ¬ (q : Int) < 0 := by omega
    generalize rep c m = A at *
    generalize rep c q = A1 at *
    generalize rep c p = A2 at *
    have KR := Lib.hid kr; have KR1 := Lib.hid kr1; have KR2 := Lib.hid kr2
    clear kr kr1 kr2 hM
    go_enter Try.func82, Try.ntmps82
    go_wp2_with (first | (go_at_call 92; (with_reducible refine Calls.mono (KR.out _) ?_); rintro r w1 ⟨rfl, hb⟩; replace hB0 := hB0.trans (hb.mono hB0.size)) | (go_at_call 92; (with_reducible refine Calls.mono (KR1.out _) ?_); rintro r w1 ⟨rfl, hb⟩; replace hB0 := hB0.trans (hb.mono hB0.size)) | (go_at_call 92; (with_reducible refine Calls.mono (KR2.out _) ?_); rintro r w1 ⟨rfl, hb⟩; replace hB0 := hB0.trans (hb.mono hB0.size)))
    all_goals go_ret
    all_goals exact ⟨ret_str (by simp [cat_l]), by first | exact hB0 | exact hB0.drew⟩)
end Go.Proofs.Ytffdgpahbdmacaa
