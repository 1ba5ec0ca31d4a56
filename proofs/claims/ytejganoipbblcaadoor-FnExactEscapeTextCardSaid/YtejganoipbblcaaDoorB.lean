import Derived.Test.YtejganoipbblcaaDoorRows
import Derived.Test.YtejganoipbblcaaDoorShelf
import Derived.WalkKit
import Derived.WalkSpells
import Derived.WalkLawsBesides
import Derived.BigQuiet
import Derived.Deep.QuietTactic
import Derived.Deep.LoopGhost
import Derived.Lib.Hide
import Derived.Lib.IndexLaws
namespace Go.Proofs.YtejganoipbblcaaDoor
open Go.RowKit

theorem ret_bool {a b : Bool} (h : a = b) : Ending.returned (.bool a) = .returned (.bool b) := by rw [h]
def inr (n lo hi : Int) : Bool := decide (lo ≤ n) && decide (n ≤ hi)

set_option maxHeartbeats 400000 in
theorem within_any (n lo hi : Int) (w : World) :
    Calls Tryd.prog 33 #[.int .i64 n, .int .i64 lo, .int .i64 hi] w fun r w' => r = .returned (.bool (inr n lo hi)) ∧ w = w' := by
  go_enter Tryd.func33, Tryd.ntmps33
  go_wp2
  all_goals go_ret
  all_goals exact ⟨ret_bool (by simp [inr]; try omega), rfl⟩
set_option maxHeartbeats 400000 in
theorem inRangeS_any (n lo hi : Int) (w : World) :
    Calls Tryd.prog 73 #[.int .i64 n, .int .i64 lo, .int .i64 hi] w fun r w' => r = .returned (.bool (inr n lo hi)) ∧ w = w' := by
  go_enter Tryd.func73, Tryd.ntmps73
  go_wp2
  all_goals go_ret
  all_goals exact ⟨ret_bool (by simp [inr]; try omega), rfl⟩

/-- the text's ways: none, one byte, more -/
theorem bytes_cases (s : ByteArray) : s = ⟨#[]⟩ ∨ (∃ b, s = ⟨#[b]⟩) ∨ 2 ≤ s.size := by
  obtain ⟨⟨l⟩⟩ := s
  match l with
  | [] => exact .inl rfl
  | [b] => exact .inr (.inl ⟨b, rfl⟩)
  | _ :: _ :: l => exact .inr (.inr (by simp [ByteArray.size]))
theorem loop_ne (s : ByteArray) : ∀ (n i : Nat) (acc : List UInt8), s.size - i = n → acc ≠ [] → ByteArray.toList.loop s i acc ≠ [] := by
  intro n
  induction n with
  | zero =>
    intro i acc hn ha
    rw [ByteArray.toList.loop, if_neg (by omega)]
    simpa using ha
  | succ n ih =>
    intro i acc hn ha
    rw [ByteArray.toList.loop, if_pos (by omega)]
    exact ih (i + 1) _ (by omega) (by simp)
theorem nonempty_list {s : ByteArray} (h : 1 ≤ s.size) : s.toList.isEmpty = false := by
  have : s.toList ≠ [] := by
    rw [ByteArray.toList, ByteArray.toList.loop, if_pos (by omega)]
    exact loop_ne s _ _ _ rfl (by simp)
  simpa using this
theorem ret_int {k : IntKind} {a b : Int} (h : a = b) : Ending.returned (.int k a) = .returned (.int k b) := by rw [h]
theorem byte_eq {b k : UInt8} (h : ((k.toNat : Int) == (b.toNat : Int)) = true) : b = k := by
  have h1 : (k.toNat : Int) = b.toNat := by simpa using h
  exact UInt8.toNat_inj.1 (by omega)
theorem byte_ne {b k : UInt8} (h : ((k.toNat : Int) == (b.toNat : Int)) = false) : (k == b) = false := by
  have h1 : ¬ (k.toNat : Int) = b.toNat := by simpa using h
  simp only [beq_eq_false_iff_ne]
  intro q; exact h1 (by rw [q])
theorem ret_str {a b : ByteArray} (h : a = b) : Ending.returned (.string a) = .returned (.string b) := by rw [h]
/-- the number of a digit in some base, 16 where there is none -/
def dg (n : Int) : Int := if 48 ≤ n ∧ n ≤ 57 then n - 48 else if 97 ≤ n ∧ n ≤ 102 then n - 87 else if 65 ≤ n ∧ n ≤ 70 then n - 55 else 16
theorem dg_ge (n : Int) : 0 ≤ dg n := by unfold dg; split <;> (try split) <;> (try split) <;> omega
theorem dg_le (n : Int) : dg n ≤ 16 := by unfold dg; split <;> (try split) <;> (try split) <;> omega
/-- the number of the digits l behind n -/
def vRun (base : Int) : List UInt8 → Int → Int
  | [], n => n
  | b :: l, n => if dg b.toNat ≥ base then -1 else if n * base + dg b.toNat > 999999999999 then -1 else vRun base l (n * base + dg b.toNat)
def valW (s : ByteArray) (base : Int) : Int := if s.size = 0 then -1 else if base < 2 then -1 else if 16 < base then -1 else vRun base s.data.toList 0
theorem drop_at {s : ByteArray} {k : Nat} (h : k < s.size) : s.data.toList.drop k = s[k] :: s.data.toList.drop (k + 1) := by
  have h' : k < s.data.toList.length := by rw [Array.length_toList]; exact h
  rw [List.drop_eq_getElem_cons h']
  rfl
theorem drop_end {s : ByteArray} {k : Nat} (h : s.size ≤ k) : s.data.toList.drop k = [] :=
  List.drop_eq_nil_of_le (by rw [Array.length_toList]; exact h)

end Go.Proofs.YtejganoipbblcaaDoor
