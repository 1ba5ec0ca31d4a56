import Derived.Deep.LoopGhost
import Derived.Test.YtejganoipbblcaaDoorV2
import Derived.Test.YtejganoipbblcaaDoorAB
namespace Go.Proofs.YtejganoipbblcaaDoor
open Go.RowKit
theorem ext_one {s : ByteArray} {k : Nat} (h : k < s.size) : s.extract k (k + 1) = ⟨#[s[k]]⟩ := by
  apply ByteArray.ext
  rw [ByteArray.data_extract]
  apply Array.ext
  · have : s.data.size = s.size := rfl
    simp; omega
  · intro i h1 h2
    simp at h2
    subst h2
    simp
    rfl
theorem cat_l (a b : List UInt8) : (⟨a.toArray⟩ : ByteArray) ++ ⟨b.toArray⟩ = ⟨(a ++ b).toArray⟩ := by
  apply ByteArray.ext
  rw [ByteArray.data_append]
  simp
theorem of_list (s : ByteArray) : s = ⟨s.data.toList.toArray⟩ := by
  apply ByteArray.ext
  simp
theorem cat_one (a : List UInt8) {s : ByteArray} {k : Nat} (h : k < s.size) : (⟨a.toArray⟩ : ByteArray) ++ s.extract k (k + 1) = ⟨(a ++ [s[k]]).toArray⟩ := by
  rw [ext_one h]
  exact cat_l a [s[k]]
theorem cat_two (a : List UInt8) (sep : ByteArray) : (⟨a.toArray⟩ : ByteArray) ++ sep = ⟨(a ++ sep.data.toList).toArray⟩ := by
  conv => lhs; rw [of_list sep]
  exact cat_l a _
theorem mBn {fn : FuncId} {args : Array Value} {v : Value} {w : World} (h : Calls Tryd.prog fn args w fun r w' => r = .returned v ∧ w = w') : Calls Tryd.prog fn args w fun r w' => r = .returned v ∧ Below w.heap.size w w' := h.mono (by rintro r w1 ⟨rfl, rfl⟩; exact ⟨rfl, Below.refl _ _⟩)
theorem ret_strN {a b : ByteArray} (h : a = b) : Ending.returned (.string a) = .returned (.string b) := by rw [h]
theorem cat_lN (a b : List UInt8) : (⟨a.toArray⟩ : ByteArray) ++ ⟨b.toArray⟩ = ⟨(a ++ b).toArray⟩ := by
  apply ByteArray.ext
  rw [ByteArray.data_append]
  simp
theorem tdivN (a b : Nat) : ((a : Int)).tdiv b = ((a / b : Nat) : Int) := by rw [Int.tdiv_eq_ediv_of_nonneg (by omega)]; rfl
theorem tmodN (a b : Nat) : ((a : Int)).tmod b = ((a % b : Nat) : Int) := by rw [Int.tmod_eq_emod_of_nonneg (by omega)]; rfl
end Go.Proofs.YtejganoipbblcaaDoor
