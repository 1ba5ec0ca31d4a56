import Derived.Test.YtcbpocpkfmbaoaaDoorRows
import Derived.Test.YtcbpocpkfmbaoaaDoorShelf
import Derived.WalkKit
import Derived.WalkSpells
import Derived.WalkLawsBesides
import Derived.BigQuiet
import Derived.Deep.QuietTactic
import Derived.Deep.LoopGhost
import Derived.Lib.Hide
import Derived.Lib.IndexLaws
namespace Go.Proofs.YtcbpocpkfmbaoaaDoor
open Go.RowKit

theorem ret_bool {a b : Bool} (h : a = b) : Ending.returned (.bool a) = .returned (.bool b) := by rw [h]
def inr (n lo hi : Int) : Bool := decide (lo ≤ n) && decide (n ≤ hi)

set_option maxHeartbeats 400000 in
theorem within_any (n lo hi : Int) (w : World) :
    Calls Tryd.prog 23 #[.int .i64 n, .int .i64 lo, .int .i64 hi] w fun r w' => r = .returned (.bool (inr n lo hi)) ∧ w = w' := by
  go_enter Tryd.func23, Tryd.ntmps23
  go_wp2
  all_goals go_ret
  all_goals exact ⟨ret_bool (by simp [inr]; try omega), rfl⟩
set_option maxHeartbeats 400000 in
theorem inRangeS_any (n lo hi : Int) (w : World) :
    Calls Tryd.prog 22 #[.int .i64 n, .int .i64 lo, .int .i64 hi] w fun r w' => r = .returned (.bool (inr n lo hi)) ∧ w = w' := by
  go_enter Tryd.func22, Tryd.ntmps22
  go_wp2
  all_goals go_ret
  all_goals exact ⟨ret_bool (by simp [inr]; try omega), rfl⟩

theorem less_one (a b : UInt8) : Op.bytesLess [a] [b] = decide (a < b) := by
  simp [Op.bytesLess]
/-- a printable byte -/
def okByte (b : UInt8) : Bool := !decide (b < 32) && (decide (b < 126) || b == 126)
set_option maxHeartbeats 1000000 in
theorem isPrintable_one (b : UInt8) (w : World) :
    Calls Tryd.prog 27 #[.string ⟨#[b]⟩] w fun r w' => r = .returned (.bool (okByte b)) ∧ w = w' := by
  go_enter Tryd.func27, Tryd.ntmps27
  go_wp2
  all_goals go_ret
  all_goals refine ⟨ret_bool ?_, rfl⟩
  all_goals simp_all [okByte, less_one]
set_option maxHeartbeats 1000000 in
theorem isPrintable_no (s : ByteArray) (h : s.size ≠ 1) (w : World) :
    Calls Tryd.prog 27 #[.string s] w fun r w' => r = .returned (.bool false) ∧ w = w' := by
  have h' : ¬ (s.size : Int) = 1 := by omega
  go_enter Tryd.func27, Tryd.ntmps27
  go_wp2
  all_goals go_ret
  all_goals exact ⟨rfl, rfl⟩

/-- the text's ways: none, one byte, more -/
theorem bytes_cases (s : ByteArray) : s = ⟨#[]⟩ ∨ (∃ b, s = ⟨#[b]⟩) ∨ 2 ≤ s.size := by
  obtain ⟨⟨l⟩⟩ := s
  match l with
  | [] => exact .inl rfl
  | [b] => exact .inr (.inl ⟨b, rfl⟩)
  | _ :: _ :: l => exact .inr (.inr (by simp [ByteArray.size]))
theorem loop_ne (s : ByteArray) : ∀ (n i : Nat) (acc : List UInt8), s.size - i = n → acc ≠ [] → ByteArray.toList.loop s i acc ≠ [] := by
  intro n
  induction n with
  | zero =>
    intro i acc hn ha
    rw [ByteArray.toList.loop, if_neg (by omega)]
    simpa using ha
  | succ n ih =>
    intro i acc hn ha
    rw [ByteArray.toList.loop, if_pos (by omega)]
    exact ih (i + 1) _ (by omega) (by simp)
theorem nonempty_list {s : ByteArray} (h : 1 ≤ s.size) : s.toList.isEmpty = false := by
  have : s.toList ≠ [] := by
    rw [ByteArray.toList, ByteArray.toList.loop, if_pos (by omega)]
    exact loop_ne s _ _ _ rfl (by simp)
  simpa using this
theorem ret_int {k : IntKind} {a b : Int} (h : a = b) : Ending.returned (.int k a) = .returned (.int k b) := by rw [h]
theorem byte_eq {b k : UInt8} (h : ((k.toNat : Int) == (b.toNat : Int)) = true) : b = k := by
  have h1 : (k.toNat : Int) = b.toNat := by simpa using h
  exact UInt8.toNat_inj.1 (by omega)
theorem byte_ne {b k : UInt8} (h : ((k.toNat : Int) == (b.toNat : Int)) = false) : (k == b) = false := by
  have h1 : ¬ (k.toNat : Int) = b.toNat := by simpa using h
  simp only [beq_eq_false_iff_ne]
  intro q; exact h1 (by rw [q])
theorem okByte_nat (b : UInt8) : okByte b = (decide (32 ≤ b.toNat) && decide (b.toNat ≤ 126)) := by
  have h1 : (b < 32) ↔ b.toNat < 32 := UInt8.lt_iff_toNat_lt
  have h2 : (b < 126) ↔ b.toNat < 126 := UInt8.lt_iff_toNat_lt
  have h3 : (b == 126) = decide (b.toNat = 126) := by
    by_cases h : b = 126
    · subst h; rfl
    · have : ¬ b.toNat = 126 := fun q => h (UInt8.toNat_inj.1 q)
      simp [h, this]
  unfold okByte
  rw [h3]
  simp only [h1, h2]
  rw [Bool.eq_iff_iff]
  simp
  omega
theorem ret_str {a b : ByteArray} (h : a = b) : Ending.returned (.string a) = .returned (.string b) := by rw [h]
theorem ext_one {s : ByteArray} {k : Nat} (h : k < s.size) : s.extract k (k + 1) = ⟨#[s[k]]⟩ := by
  apply ByteArray.ext
  rw [ByteArray.data_extract]
  apply Array.ext
  · have : s.data.size = s.size := rfl
    simp; omega
  · intro i h1 h2
    simp at h2
    subst h2
    simp
    rfl
theorem cat_l (a b : List UInt8) : (⟨a.toArray⟩ : ByteArray) ++ ⟨b.toArray⟩ = ⟨(a ++ b).toArray⟩ := by
  apply ByteArray.ext
  rw [ByteArray.data_append]
  simp
theorem of_list (s : ByteArray) : s = ⟨s.data.toList.toArray⟩ := by
  apply ByteArray.ext
  simp
theorem cat_one (a : List UInt8) {s : ByteArray} {k : Nat} (h : k < s.size) : (⟨a.toArray⟩ : ByteArray) ++ s.extract k (k + 1) = ⟨(a ++ [s[k]]).toArray⟩ := by
  rw [ext_one h]
  exact cat_l a [s[k]]
theorem cat_two (a : List UInt8) (sep : ByteArray) : (⟨a.toArray⟩ : ByteArray) ++ sep = ⟨(a ++ sep.data.toList).toArray⟩ := by
  conv => lhs; rw [of_list sep]
  exact cat_l a _
theorem mBn {fn : FuncId} {args : Array Value} {v : Value} {w : World} (h : Calls Tryd.prog fn args w fun r w' => r = .returned v ∧ w = w') : Calls Tryd.prog fn args w fun r w' => r = .returned v ∧ Below w.heap.size w w' := h.mono (by rintro r w1 ⟨rfl, rfl⟩; exact ⟨rfl, Below.refl _ _⟩)
theorem ret_strN {a b : ByteArray} (h : a = b) : Ending.returned (.string a) = .returned (.string b) := by rw [h]
theorem cat_lN (a b : List UInt8) : (⟨a.toArray⟩ : ByteArray) ++ ⟨b.toArray⟩ = ⟨(a ++ b).toArray⟩ := by
  apply ByteArray.ext
  rw [ByteArray.data_append]
  simp
theorem tdivN (a b : Nat) : ((a : Int)).tdiv b = ((a / b : Nat) : Int) := by rw [Int.tdiv_eq_ediv_of_nonneg (by omega)]; rfl
theorem tmodN (a b : Nat) : ((a : Int)).tmod b = ((a % b : Nat) : Int) := by rw [Int.tmod_eq_emod_of_nonneg (by omega)]; rfl
end Go.Proofs.YtcbpocpkfmbaoaaDoor
