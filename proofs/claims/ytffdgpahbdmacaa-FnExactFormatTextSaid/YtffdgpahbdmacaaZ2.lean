import Derived.Test.YtffdgpahbdmacaaZ1
namespace Go.Proofs.Ytffdgpahbdmacaa
open Go.RowKit
theorem rep_snoc (c : UInt8) (k : Nat) : rep c k ++ [c] = rep c (k + 1) := by
  simp [rep, List.replicate_succ']
set_option maxRecDepth 100000 in
set_option maxHeartbeats 2000000 in
theorem repeatS_any (c : UInt8) (n : Nat) (hn : n ≤ 100) (w : World) : Calls Try.prog 92 #[.string ⟨#[c]⟩, .int .i64 n] w fun r w' => r = .returned (.string ⟨(rep c n).toArray⟩) ∧ w = w' := by
  go_enter Try.func92, Try.ntmps92
  go_wp2
  go_loopg [5, 6] n (fun g s5 s6 wr => ∃ k : Nat, wr = w ∧ s5 = .string ⟨(rep c k).toArray⟩ ∧ s6 = .int .i64 k ∧ k ≤ n ∧ Aside (g = n - k))
  case atStart => exact ⟨0, rfl, rfl, rfl, by omega, by show _ = _; omega⟩
  case round =>
    obtain ⟨k, rfl, rfl, rfl, hk, hg⟩ := hrel
    have hg' := hg.out
    clear hg
    by_cases hlt : k < n
    · have i1 : (k : Int) < n := by omega
      have hq : ¬ (9223372036854775807 < (rep c k).length + 1) := by rw [rep_len]; omega
      have hc : (⟨(rep c k).toArray⟩ : ByteArray) ++ ⟨#[c]⟩ = ⟨(rep c (k + 1)).toArray⟩ := by rw [← rep_snoc]; exact cat_l (rep c k) [c]
      go_wp2
      go_roundg (n - (k + 1))
      case measure => omega
      case rel => exact ⟨k + 1, rfl, rfl, by go_num, by omega, rfl⟩
    · obtain rfl : k = n := by omega
      have i1 : ¬ (k : Int) < k := by omega
      go_wp2
      go_ret
      exact ⟨rfl, rfl⟩
/-- what the fill is made of -/
structure FP (c : UInt8) (m : Nat) (A A1 A2 : List UInt8) : Prop where
  e0 : A = rep c m
  e1 : (⟨A.toArray⟩ : ByteArray).extract 0 (m / 2) = ⟨A1.toArray⟩
  e2 : (⟨A.toArray⟩ : ByteArray).extract (m / 2) m = ⟨A2.toArray⟩
  l0 : A.length = m
  l1 : A1 = rep c (m / 2)
  l2 : A2 = rep c (m - m / 2)
theorem FP.mk' (c : UInt8) (m : Nat) : FP c m (rep c m) (rep c (m / 2)) (rep c (m - m / 2)) := by
  refine ⟨rfl, ?_, ?_, rep_len c m, rfl, rfl⟩
  · rw [ext_take]
    simp [rep, List.take_replicate]
    omega
  · have := ext_drop (m / 2) (rep c m)
    rw [rep_len] at this
    rw [this]
    simp [rep, List.drop_replicate]
set_option maxRecDepth 100000 in
set_option maxHeartbeats 4000000 in
theorem filled_any (H B : List UInt8) (wi : Nat) (c : UInt8) (al : Int) (w : World) (hH : H.length ≤ 200) (hB : B.length ≤ 400) (hw : wi ≤ 30) (ha : 1 ≤ al ∧ al ≤ 4) :
    Calls Try.prog 61 #[.string ⟨H.toArray⟩, .string ⟨B.toArray⟩, .int .i64 wi, .string ⟨#[c]⟩, .int .i64 al] w fun r w' => r = .returned (.string ⟨(padL H B wi c al).toArray⟩) ∧ Below w.heap.size w w' := by
  have kg := fun W => mBn (greater_pos ((wi : Int) - H.length - B.length) (by omega) W)
  have hm : ((wi : Int) - H.length - B.length).toNat = wi - H.length - B.length := by omega
  rw [hm] at kg
  have hm30 : wi - H.length - B.length ≤ 30 := by omega
  have kr := fun W => Repeat_rep c (wi - H.length - B.length) (by omega) W
  have hfp := FP.mk' c (wi - H.length - B.length)
  have hal : al = 1 ∨ al = 2 ∨ al = 3 ∨ al = 4 := by omega
  have htd : ((wi - H.length - B.length : Nat) : Int).tdiv 2 = ((wi - H.length - B.length) / 2 : Nat) := tdivN (wi - H.length - B.length) 2
  have hq : (wi - H.length - B.length) / 2 ≤ wi - H.length - B.length := by omega
  unfold padL
  clear hm
  generalize wi - H.length - B.length = m at *
  generalize rep c m = A at *
  generalize rep c (m / 2) = A1 at *
  generalize rep c (m - m / 2) = A2 at *
  obtain ⟨e0, e1, e2, l0, l1, l2⟩ := hfp
  clear e0
  have l1' : A1.length ≤ 30 := by rw [l1, rep_len]; omega
  have l2' : A2.length ≤ 30 := by rw [l2, rep_len]; omega
  clear l1 l2
  generalize m / 2 = q at *
  have hwq : IntKind.i64.wrap (q : Int) = q := IntWalk.i64_in _ (by omega)
  have i1 : ¬ (q : Int) < 0 := by omega
  have i2 : ¬ (m : Int) < q := by omega
  have i3 : ¬ m < q := by omega
  have c1 := cat_l H B; have c2 := cat_l (H ++ B) A; have c3 := cat_l A H; have c4 := cat_l (A ++ H) B; have c5 := cat_l H A; have c6 := cat_l (H ++ A) B
  have c7 := cat_l A1 H; have c8 := cat_l (A1 ++ H) B; have c9 := cat_l ((A1 ++ H) ++ B) A2
  have b1 : ¬ (9223372036854775807 < H.length + B.length) := by omega
  have b2 : ¬ (9223372036854775807 < H.length + B.length + m) := by omega
  have b3 : ¬ (9223372036854775807 < m + H.length) := by omega
  have b4 : ¬ (9223372036854775807 < m + H.length + B.length) := by omega
  have b5 : ¬ (9223372036854775807 < H.length + m) := by omega
  have b6 : ¬ (9223372036854775807 < H.length + m + B.length) := by omega
  have b7 : ¬ (9223372036854775807 < A1.length + H.length) := by omega
  have b8 : ¬ (9223372036854775807 < A1.length + H.length + B.length) := by omega
  have b9 : ¬ (9223372036854775807 < A1.length + H.length + B.length + A2.length) := by omega
  have KG := Lib.hid kg; have KR := Lib.hid kr
  clear kg kr
  have hB0 := Below.refl w.heap.size w
  rcases hal with rfl | rfl | rfl | rfl
  all_goals (
    go_enter Try.func61, Try.ntmps61
    go_wp2_with (first | (go_at_call 64; (with_reducible refine Calls.mono (KG.out _) ?_); rintro r w1 ⟨rfl, hb⟩; replace hB0 := hB0.trans (hb.mono hB0.size)) | (go_at_call 85; (with_reducible refine Calls.mono (KR.out _) ?_); rintro r w1 ⟨rfl, hb⟩; replace hB0 := hB0.trans (hb.mono hB0.size)))
    all_goals (first | go_ret | (go_region; go_wp2; go_ret))
    all_goals exact ⟨ret_str (by simp [cat_l]), by first | exact hB0 | exact hB0.drew⟩)
end Go.Proofs.Ytffdgpahbdmacaa
