import Derived.Test.YtebheehjhnaklaaGreatDoorY1
namespace Go.Proofs.YtebheehjhnaklaaGreatDoor
open Go.RowKit
theorem idx_hit {l : List UInt8} {b : UInt8} {k : Nat} (hk : l[k]? = some b) (hn : ∀ j, j < k → l[j]? ≠ some b) : Lib.indexByte l b = k := by
  have h1 := Lib.indexByte_ge l b
  by_cases h : Lib.indexByte l b = -1
  · exact absurd hk (Lib.indexByte_none h k)
  · obtain ⟨o, ho⟩ : ∃ o : Nat, Lib.indexByte l b = o := ⟨(Lib.indexByte l b).toNat, by omega⟩
    obtain ⟨g1, g2⟩ := Lib.indexByte_some ho
    rw [ho]
    rcases Nat.lt_trichotomy o k with h | h | h
    · exact absurd g1 (hn o h)
    · rw [h]
    · exact absurd hk (g2 k h)
theorem idx_miss {l : List UInt8} {b : UInt8} (hn : ∀ j, j < l.length → l[j]? ≠ some b) : Lib.indexByte l b = -1 := by
  by_cases h : Lib.indexByte l b = -1
  · exact h
  · have h1 := Lib.indexByte_ge l b
    obtain ⟨o, ho⟩ : ∃ o : Nat, Lib.indexByte l b = o := ⟨(Lib.indexByte l b).toNat, by omega⟩
    obtain ⟨g1, g2⟩ := Lib.indexByte_some ho
    have hl : o < l.length := by
      rcases Nat.lt_or_ge o l.length with h | h
      · exact h
      · rw [List.getElem?_eq_none h] at g1; cases g1
    exact absurd g1 (hn o hl)
theorem at_list {s : ByteArray} {k : Nat} (h : k < s.size) : s.data.toList[k]? = some s[k] := by
  have h' : k < s.data.toList.length := by rw [Array.length_toList]; exact h
  rw [List.getElem?_eq_getElem h']
  rfl
set_option maxHeartbeats 1000000 in
theorem indexOfS_any (s : ByteArray) (b : UInt8) (hs : s.size ≤ 9223372036854775807) (w : World) :
    Calls Tryz.prog 117 #[.string s, .int .u8 b.toNat] w fun r w' => r = .returned (.int .i64 (Lib.indexByte s.data.toList b)) ∧ w = w' := by
  go_enter Tryz.func117, Tryz.ntmps117
  go_wp2
  go_loopg [5] s.size (fun g s4 wr => ∃ k : Nat, wr = w ∧ s4 = .int .i64 k ∧ k ≤ s.size ∧ Aside (g = s.size - k) ∧ Aside (∀ j, j < k → s.data.toList[j]? ≠ some b))
  case atStart => exact ⟨0, rfl, rfl, by omega, by show _ = _; omega, fun j hj => absurd hj (by omega)⟩
  case round =>
    obtain ⟨k, rfl, rfl, hk, hg, hn⟩ := hrel
    have hg' := hg.out
    have hn' := hn.out
    clear hg hn
    by_cases hlt : k < s.size
    · by_cases hc : ((s[k].toNat : Int) == (b.toNat : Int)) = true
      · go_wp2
        go_ret
        have hc2 : s[k] = b := (byte_eq hc).symm
        exact ⟨ret_int (idx_hit (by rw [at_list hlt, hc2]) hn').symm, rfl⟩
      · have hc1 : ((s[k].toNat : Int) == (b.toNat : Int)) = false := by simpa using hc
        clear hc
        go_wp2
        go_roundg (s.size - (k + 1))
        case measure => omega
        case rel =>
          refine ⟨k + 1, rfl, by go_num, by omega, rfl, fun j hj => ?_⟩
          by_cases hjk : j < k
          · exact hn' j hjk
          · obtain rfl : j = k := by omega
            rw [at_list hlt]
            intro e
            simp only [Option.some.injEq] at e
            rw [e] at hc1
            simp at hc1
    · go_wp2
      go_ret
      exact ⟨ret_int (idx_miss (by intro j hj; exact hn' j (by rw [Array.length_toList] at hj; have : s.data.size = s.size := rfl; omega))).symm, rfl⟩
end Go.Proofs.YtebheehjhnaklaaGreatDoor
