import Derived.Test.YtbkdjldimmhbjaaDoorW0
namespace Go.Proofs.YtbkdjldimmhbjaaDoor
open Go.RowKit
/-- the mark at a place counted from 1 -/
def mk (l : List UInt8) (k : Int) : List UInt8 := if k = 0 then [] else (l.drop (k.toNat - 1)).take 1
theorem mk_len (l : List UInt8) (k : Int) : (mk l k).length ≤ 1 := by unfold mk; split <;> simp; omega
/-- a number of at most two digits -/
def dec2 (n : Nat) : List UInt8 := if n < 10 then [UInt8.ofNat (48 + n)] else [UInt8.ofNat (48 + n / 10), UInt8.ofNat (48 + n % 10)]
theorem dec2_len (n : Nat) : (dec2 n).length ≤ 2 := by unfold dec2; split <;> simp
def spL (f : List UInt8) (al si : Int) (alt ze : Bool) (wi gr pr : Int) (t : List UInt8) : List UInt8 :=
  f ++ (mk [60, 62, 94, 61] al ++ (mk [45, 43, 32] si ++ ((if alt then [35] else []) ++ ((if ze then [48] else []) ++ ((if 0 < wi then dec2 wi.toNat else []) ++ (mk [44, 95] gr ++ ((if pr = -1 then [] else 46 :: dec2 pr.toNat) ++ t)))))))
theorem cat_l (a b : List UInt8) : (⟨a.toArray⟩ : ByteArray) ++ ⟨b.toArray⟩ = ⟨(a ++ b).toArray⟩ := by
  apply ByteArray.ext
  rw [ByteArray.data_append]
  simp
theorem markAt_4 (k : Int) (h0 : 0 ≤ k) (h1 : k ≤ 4) (w : World) : Calls Tryd.prog 31 #[.string ⟨#[60, 62, 94, 61]⟩, .int .i64 k] w fun r w' => r = .returned (.string ⟨(mk [60, 62, 94, 61] k).toArray⟩) ∧ w = w' := by
  have hk : k = 0 ∨ k = 1 ∨ k = 2 ∨ k = 3 ∨ k = 4 := by omega
  rcases hk with rfl | rfl | rfl | rfl | rfl
  all_goals (
    go_enter Tryd.func31, Tryd.ntmps31
    go_wp2
    go_ret
    exact ⟨rfl, rfl⟩)
theorem markAt_3 (k : Int) (h0 : 0 ≤ k) (h1 : k ≤ 3) (w : World) : Calls Tryd.prog 31 #[.string ⟨#[45, 43, 32]⟩, .int .i64 k] w fun r w' => r = .returned (.string ⟨(mk [45, 43, 32] k).toArray⟩) ∧ w = w' := by
  have hk : k = 0 ∨ k = 1 ∨ k = 2 ∨ k = 3 := by omega
  rcases hk with rfl | rfl | rfl | rfl
  all_goals (
    go_enter Tryd.func31, Tryd.ntmps31
    go_wp2
    go_ret
    exact ⟨rfl, rfl⟩)
theorem markAt_2 (k : Int) (h0 : 0 ≤ k) (h1 : k ≤ 2) (w : World) : Calls Tryd.prog 31 #[.string ⟨#[44, 95]⟩, .int .i64 k] w fun r w' => r = .returned (.string ⟨(mk [44, 95] k).toArray⟩) ∧ w = w' := by
  have hk : k = 0 ∨ k = 1 ∨ k = 2 := by omega
  rcases hk with rfl | rfl | rfl
  all_goals (
    go_enter Tryd.func31, Tryd.ntmps31
    go_wp2
    go_ret
    exact ⟨rfl, rfl⟩)
theorem markS_4 (k : Int) (h0 : 0 ≤ k) (h1 : k ≤ 4) (w : World) : Calls Tryd.prog 60 #[.string ⟨#[60, 62, 94, 61]⟩, .int .i64 k] w fun r w' => r = .returned (.string ⟨(mk [60, 62, 94, 61] k).toArray⟩) ∧ w = w' := by
  have hk : k = 0 ∨ k = 1 ∨ k = 2 ∨ k = 3 ∨ k = 4 := by omega
  rcases hk with rfl | rfl | rfl | rfl | rfl
  all_goals (
    go_enter Tryd.func60, Tryd.ntmps60
    go_wp2
    go_ret
    exact ⟨rfl, rfl⟩)
theorem markS_3 (k : Int) (h0 : 0 ≤ k) (h1 : k ≤ 3) (w : World) : Calls Tryd.prog 60 #[.string ⟨#[45, 43, 32]⟩, .int .i64 k] w fun r w' => r = .returned (.string ⟨(mk [45, 43, 32] k).toArray⟩) ∧ w = w' := by
  have hk : k = 0 ∨ k = 1 ∨ k = 2 ∨ k = 3 := by omega
  rcases hk with rfl | rfl | rfl | rfl
  all_goals (
    go_enter Tryd.func60, Tryd.ntmps60
    go_wp2
    go_ret
    exact ⟨rfl, rfl⟩)
theorem markS_2 (k : Int) (h0 : 0 ≤ k) (h1 : k ≤ 2) (w : World) : Calls Tryd.prog 60 #[.string ⟨#[44, 95]⟩, .int .i64 k] w fun r w' => r = .returned (.string ⟨(mk [44, 95] k).toArray⟩) ∧ w = w' := by
  have hk : k = 0 ∨ k = 1 ∨ k = 2 := by omega
  rcases hk with rfl | rfl | rfl
  all_goals (
    go_enter Tryd.func60, Tryd.ntmps60
    go_wp2
    go_ret
    exact ⟨rfl, rfl⟩)
/-- a digit of the model -/
theorem numberS_one (k : Nat) (h : k < 10) (w : World) : Calls Tryd.prog 61 #[.int .i64 k] w fun r w' => r = .returned (.string ⟨(dec2 k).toArray⟩) ∧ w = w' := by
  have hk : k = 0 ∨ k = 1 ∨ k = 2 ∨ k = 3 ∨ k = 4 ∨ k = 5 ∨ k = 6 ∨ k = 7 ∨ k = 8 ∨ k = 9 := by omega
  rcases hk with rfl | rfl | rfl | rfl | rfl | rfl | rfl | rfl | rfl | rfl
  all_goals (
    go_enter Tryd.func61, Tryd.ntmps61
    go_wp2
    go_ret
    exact ⟨rfl, rfl⟩)
end Go.Proofs.YtbkdjldimmhbjaaDoor
