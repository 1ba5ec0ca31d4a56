import Derived.Test.YteaaopippeploaaV2
import Derived.Lib.IndexLaws
namespace Go.Proofs.Yteaaopippeploaa
open Go.RowKit

/-- the number of a digit in some base, 16 where there is none -/
def dg (n : Int) : Int := if 48 ≤ n ∧ n ≤ 57 then n - 48 else if 97 ≤ n ∧ n ≤ 102 then n - 87 else if 65 ≤ n ∧ n ≤ 70 then n - 55 else 16
theorem dg_ge (n : Int) : 0 ≤ dg n := by unfold dg; split <;> (try split) <;> (try split) <;> omega
theorem dg_le (n : Int) : dg n ≤ 16 := by unfold dg; split <;> (try split) <;> (try split) <;> omega
/-- the number of the digits l behind n -/
def vRun (base : Int) : List UInt8 → Int → Int
  | [], n => n
  | b :: l, n => if dg b.toNat ≥ base then -1 else if n * base + dg b.toNat > 999999999999 then -1 else vRun base l (n * base + dg b.toNat)
def valW (s : ByteArray) (base : Int) : Int := if s.size = 0 then -1 else if base < 2 then -1 else if 16 < base then -1 else vRun base s.data.toList 0
theorem drop_at {s : ByteArray} {k : Nat} (h : k < s.size) : s.data.toList.drop k = s[k] :: s.data.toList.drop (k + 1) := by
  have h' : k < s.data.toList.length := by rw [Array.length_toList]; exact h
  rw [List.drop_eq_getElem_cons h']
  rfl
theorem drop_end {s : ByteArray} {k : Nat} (h : s.size ≤ k) : s.data.toList.drop k = [] :=
  List.drop_eq_nil_of_le (by rw [Array.length_toList]; exact h)

set_option maxHeartbeats 1000000 in
theorem digitValue_any (n : Int) (h0 : 0 ≤ n) (h1 : n < 256) (w : World) :
    Calls Try.prog 52 #[.int .u8 n] w fun r w' => r = .returned (.int .i64 (dg n)) ∧ w = w' := by
  have u1 : 48 ≤ n → IntKind.u8.wrap (n - 48) = n - 48 := fun h => by rw [IntKind.wrap_u8]; omega
  have u2 : 97 ≤ n → IntKind.u8.wrap (n - 97) = n - 97 := fun h => by rw [IntKind.wrap_u8]; omega
  have u3 : 65 ≤ n → IntKind.u8.wrap (n - 65) = n - 65 := fun h => by rw [IntKind.wrap_u8]; omega
  go_enter Try.func52, Try.ntmps52
  go_wp2
  all_goals go_ret
  all_goals refine ⟨ret_int ?_, rfl⟩
  all_goals first | (unfold dg; (repeat' split) <;> omega)
end Go.Proofs.Yteaaopippeploaa
