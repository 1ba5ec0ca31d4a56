import Derived.Test.YtebheehjhnaklaaGreatDoorC3T
import Derived.Test.YtebheehjhnaklaaGreatDoorHSh
import Derived.Test.YtebheehjhnaklaaGreatDoorN2
import Derived.Test.YtebheehjhnaklaaGreatDoorN6
import Derived.Test.YtebheehjhnaklaaGreatDoorY10
import Derived.Test.YtebheehjhnaklaaGreatDoorY4
import Derived.Test.YtebheehjhnaklaaGreatDoorY13
import Derived.Lib.AppendIntMem
namespace Go.Proofs.YtebheehjhnaklaaGreatDoor
open Go.RowKit
/-- the mark of a grouping -/
def mkL (k : Int) : List UInt8 := if k = 1 then [44] else if k = 2 then [95] else []
theorem markAt_g (k : Int) (h0 : 0 ≤ k) (h1 : k ≤ 2) (w : World) : Calls Tryz.prog 130 #[.string ⟨#[44, 95]⟩, .int .i64 k] w fun r w' => r = .returned (.string ⟨(mkL k).toArray⟩) ∧ w = w' := by
  have hk : k = 0 ∨ k = 1 ∨ k = 2 := by omega
  rcases hk with rfl | rfl | rfl
  all_goals (
    go_enter Tryz.func130, Tryz.ntmps130
    go_wp2
    go_ret
    exact ⟨rfl, rfl⟩)
theorem markS_g (k : Int) (h0 : 0 ≤ k) (h1 : k ≤ 2) (w : World) : Calls Tryz.prog 134 #[.string ⟨#[44, 95]⟩, .int .i64 k] w fun r w' => r = .returned (.string ⟨(mkL k).toArray⟩) ∧ w = w' := by
  have hk : k = 0 ∨ k = 1 ∨ k = 2 := by omega
  rcases hk with rfl | rfl | rfl
  all_goals (
    go_enter Tryz.func134, Tryz.ntmps134
    go_wp2
    go_ret
    exact ⟨rfl, rfl⟩)
/-- a sign ahead -/
def isSign (c : UInt8) : Bool := decide (0 ≤ Lib.indexByte [45, 43, 32] c)
theorem isSign_eq (c : UInt8) : isSign c = (c == 45 || (c == 43 || c == 32)) :=
  eq_of_beq (all_bytes (fun c => isSign c == (c == 45 || (c == 43 || c == 32))) (by kernel_rfl) c)
def cutD : List UInt8 → List UInt8
  | [] => []
  | c :: r => if isSign c then r else c :: r
def cutN : List UInt8 → Bool
  | [] => false
  | c :: _ => c == 45
theorem cutN_no {c : UInt8} {r : List UInt8} (h : isSign c = false) : cutN (c :: r) = false := by
  rw [isSign_eq] at h
  simp at h
  simp [cutN, h.1]
theorem ext_head (c : UInt8) (r : List UInt8) : (⟨(c :: r).toArray⟩ : ByteArray).extract 0 1 = ⟨#[c]⟩ := by
  apply ByteArray.ext
  rw [ByteArray.data_extract]
  simp
theorem ext_rest (c : UInt8) (r : List UInt8) : (⟨(c :: r).toArray⟩ : ByteArray).extract 1 (r.length + 1) = ⟨r.toArray⟩ := by
  apply ByteArray.ext
  rw [ByteArray.data_extract]
  apply Array.ext'
  rw [Array.toList_extract]
  simp
set_option maxHeartbeats 2000000 in
theorem cutSign_any (l : List UInt8) (hl : l.length ≤ 80) (w : World) : Calls Tryz.prog 52 #[.string ⟨l.toArray⟩] w fun r w' => r = .returned (.tuple #[.string ⟨(cutD l).toArray⟩, .bool (cutN l)]) ∧ Below w.heap.size w w' := by
  have hB := Below.refl w.heap.size w
  cases l with
  | nil =>
    go_enter Tryz.func52, Tryz.ntmps52
    go_wp2
    go_ret2
    exact ⟨rfl, hB⟩
  | cons c r =>
    have hx := ext_head c r
    have hy := ext_rest c r
    have hl2 : (1 : Int) ≤ r.length + 1 := by omega
    have kc : ∀ W, Calls Tryz.prog 100 #[.string ⟨#[45, 43, 32]⟩, .string ⟨#[c]⟩] W fun e w' => e = .returned (.bool (isSign c)) ∧ w' = W := fun W => Tryz.strings_Contains_one ⟨#[45, 43, 32]⟩ c W
    cases hs : isSign c
    · rw [hs] at kc
      have e1 : cutD (c :: r) = c :: r := by simp [cutD, hs]
      rw [e1, cutN_no hs]
      have KC := Lib.hid kc
      clear kc hs e1
      go_enter Tryz.func52, Tryz.ntmps52
      go_wp2_with (go_at_call 100; (with_reducible refine Calls.mono (KC.out _) ?_); rintro r w1 ⟨rfl, rfl⟩)
      go_ret2
      exact ⟨rfl, hB⟩
    · rw [hs] at kc
      have e1 : cutD (c :: r) = r := by simp [cutD, hs]
      have e2 : ((c.toNat : Int) == 45) = cutN (c :: r) := by
        simp only [cutN]
        rw [Bool.eq_iff_iff]
        simp only [beq_iff_eq]
        exact ⟨fun h => UInt8.toNat_inj.1 (by show c.toNat = 45; omega), fun h => by rw [h]; rfl⟩
      rw [e1, ← e2]
      have KC := Lib.hid kc
      clear kc hs e1 e2
      go_enter Tryz.func52, Tryz.ntmps52
      go_wp2_with (go_at_call 100; (with_reducible refine Calls.mono (KC.out _) ?_); rintro r w1 ⟨rfl, rfl⟩)
      refine wp_region_since (by kernel_rfl) (by kernel_rfl) ?_
      repeat (quiet_step (fail))
      refine wpQuiet_nil ?_
      intro w_ hw_
      obtain ⟨⟨w1, hb⟩, hw2⟩ := hw_
      have hw3 : w1 = w_ := hw2.symm
      clear hw2
      subst hw3
      replace hB := hB.trans (hb.mono hB.size)
      have hz := hb.size
      go_wp2
      go_ret2
      exact ⟨rfl, hB⟩
end Go.Proofs.YtebheehjhnaklaaGreatDoor
