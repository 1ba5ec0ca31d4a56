import Derived.Test.YtamlnbciejnbdaaGreatDoorB
import Derived.Test.YtamlnbciejnbdaaGreatDoorY3
namespace Go.Proofs.YtamlnbciejnbdaaGreatDoor
open Go.RowKit
theorem ext_one {s : ByteArray} {k : Nat} (h : k < s.size) : s.extract k (k + 1) = ⟨#[s[k]]⟩ := by
  apply ByteArray.ext
  rw [ByteArray.data_extract]
  apply Array.ext
  · have : s.data.size = s.size := rfl
    simp; omega
  · intro i h1 h2
    simp at h2
    subst h2
    simp
    rfl
theorem cat_l (a b : List UInt8) : (⟨a.toArray⟩ : ByteArray) ++ ⟨b.toArray⟩ = ⟨(a ++ b).toArray⟩ := by
  apply ByteArray.ext
  rw [ByteArray.data_append]
  simp
theorem of_list (s : ByteArray) : s = ⟨s.data.toList.toArray⟩ := by
  apply ByteArray.ext
  simp
theorem cat_one (a : List UInt8) {s : ByteArray} {k : Nat} (h : k < s.size) : (⟨a.toArray⟩ : ByteArray) ++ s.extract k (k + 1) = ⟨(a ++ [s[k]]).toArray⟩ := by
  rw [ext_one h]
  exact cat_l a [s[k]]
theorem cat_two (a : List UInt8) (sep : ByteArray) : (⟨a.toArray⟩ : ByteArray) ++ sep = ⟨(a ++ sep.data.toList).toArray⟩ := by
  conv => lhs; rw [of_list sep]
  exact cat_l a _
end Go.Proofs.YtamlnbciejnbdaaGreatDoor
