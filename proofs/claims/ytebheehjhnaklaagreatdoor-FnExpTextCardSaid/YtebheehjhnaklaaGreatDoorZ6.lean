import Derived.Test.YtebheehjhnaklaaGreatDoorZ3
namespace Go.Proofs.YtebheehjhnaklaaGreatDoor
open Go.RowKit
theorem mkL_len (k : Int) : (mkL k).length ≤ 1 := by
  unfold mkL
  split
  · simp
  · split <;> simp
theorem szZ (l : List UInt8) : (⟨l.toArray⟩ : ByteArray).size = l.length := rfl
end Go.Proofs.YtebheehjhnaklaaGreatDoor
namespace Go.Proofs.YtebheehjhnaklaaGreatDoor
open Go.RowKit
end Go.Proofs.YtebheehjhnaklaaGreatDoor
namespace Go.Proofs.YtebheehjhnaklaaGreatDoor
open Go.RowKit
theorem widL_ge {l sep : List UInt8} {wd n : Nat} (hl : l.length ≤ 80) (hw : wd ≤ 30) (hn0 : 1 ≤ n) (hn1 : n ≤ 9) (hs : sep.length ≤ 1) : wd ≤ (widL l wd n sep).length := by
  rw [widL_eq]
  have h := tz_ok (wd := wd) (n := n) (size := l.length) (j := tz wd n l.length sep) (sep := sep) (l := l) rfl hl hw hn0 hn1 hs (Nat.le_refl _)
  omega
theorem widL_zero {l sep : List UInt8} {n : Nat} : widL l 0 n sep = joinL n sep l := by
  rw [widL_eq]
  have : tz 0 n l.length sep = 0 := by
    unfold tz
    have := @cnt_le n 0
    split <;> omega
  rw [this]
  rfl
end Go.Proofs.YtebheehjhnaklaaGreatDoor
