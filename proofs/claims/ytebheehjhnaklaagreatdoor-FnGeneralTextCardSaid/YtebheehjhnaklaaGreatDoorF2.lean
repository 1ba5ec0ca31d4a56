import Derived.Test.YtebheehjhnaklaaGreatDoorF1
namespace Go.Proofs.YtebheehjhnaklaaGreatDoor
open Go Go.RowKit
/-- a digit -/
def IsDg (b : UInt8) : Prop := 48 ≤ b.toNat ∧ b.toNat ≤ 57
def ptL (A B : List UInt8) : List UInt8 := A ++ restL B [] false
theorem ptL_mem {A B : List UInt8} (hA : ∀ b, b ∈ A → IsDg b) (hB : ∀ b, b ∈ B → IsDg b) : ∀ b, b ∈ ptL A B → IsDg b ∨ b = 46 := by
  intro b hb
  unfold ptL restL at hb
  rw [List.mem_append] at hb
  rcases hb with hb | hb
  · exact .inl (hA b hb)
  · split at hb
    · simp at hb
    · simp only [List.append_nil, List.mem_cons] at hb
      rcases hb with rfl | hb
      · exact .inr rfl
      · exact .inl (hB b hb)
theorem ptL_len {A B : List UInt8} (h : A.length + B.length ≤ 70) : (ptL A B).length ≤ 71 := by
  unfold ptL restL
  split
  · simp; omega
  · simp; omega
theorem dg_ne {b : UInt8} {k : UInt8} (h : IsDg b ∨ b = 46) (hk : k.toNat < 46 ∨ 57 < k.toNat) : ¬ b = k := by
  intro e
  subst e
  rcases h with h | rfl
  · unfold IsDg at h; omega
  · revert hk; decide
theorem dg_ne' {b : UInt8} (h : IsDg b) : ¬ b = 46 := by
  intro e
  subst e
  revert h
  unfold IsDg
  decide
theorem any_none {l : List UInt8} (h : ∀ b, b ∈ l → IsDg b ∨ b = 46) : Lib.indexAny l [101, 69] = -1 := by
  induction l with
  | nil => rfl
  | cons b r ih =>
    have hb := h b (by simp)
    have n1 := dg_ne (k := 101) hb (by decide)
    have n2 := dg_ne (k := 69) hb (by decide)
    rw [Lib.indexAny, if_neg (by simp [n1, n2]), ih (fun c hc => h c (by simp [hc]))]
    rfl
theorem suf_none {l : List UInt8} (h : ∀ b, b ∈ l → IsDg b ∨ b = 46) : Lib.hasSuffix l [37] = false := by
  cases hs : Lib.hasSuffix l [37]
  · rfl
  · have h1 : [37] <:+ l := List.isSuffixOf_iff_suffix.1 hs
    have h2 : (37 : UInt8) ∈ l := h1.subset (by simp)
    exact absurd rfl (dg_ne (k := 37) (h 37 h2) (by decide))
theorem cutPower_pt (T : List UInt8) (hT : ∀ b, b ∈ T → IsDg b ∨ b = 46) (hl : T.length ≤ 80) (w : World) :
    Calls Tryz.prog 54 #[.string ⟨T.toArray⟩] w fun r w' => r = .returned (.tuple #[.string ⟨T.toArray⟩, .int .i64 0, .bool true]) ∧ Below w.heap.size w w' := by
  have hB := Below.refl w.heap.size w
  have k1 := fun W => Tryz.strings_IndexAny_laid ⟨T.toArray⟩ ⟨#[101, 69]⟩ W (by show T.length < _; omega) (by decide)
    (fun j b hb => by
      have hm : b ∈ T := List.mem_of_getElem? hb
      rcases hT b hm with h | h
      · have := h.2; omega
      · rw [h]; decide)
    (fun j b hb => by
      have hm : b ∈ [101, 69] := List.mem_of_getElem? hb
      revert hm; revert b; intro b _ hm
      simp only [List.mem_cons, List.not_mem_nil, or_false] at hm
      rcases hm with rfl | rfl <;> decide)
  rw [show Lib.indexAny (⟨T.toArray⟩ : ByteArray).data.toList (⟨#[101, 69]⟩ : ByteArray).data.toList = -1 from any_none hT] at k1
  have K1 := Lib.hid k1
  clear k1 hT
  go_enter Tryz.func54, Tryz.ntmps54
  go_wp2_with (go_at_call 102; (with_reducible refine Calls.mono (K1.out _) ?_); rintro r w1 ⟨rfl, hb⟩; replace hB := hB.trans (hb.mono hB.size))
  exact bodyPost_ret (v := .tuple #[.string ⟨T.toArray⟩, .int .i64 0, .bool true]) (by simp [results, Tryz.results54, go_sem, *]) rfl ⟨rfl, hB⟩
theorem cut_pt {A B : List UInt8} (hA : ∀ b, b ∈ A → IsDg b) : (Lib.cut (ptL A B) [46]).1 = A ∧ (Lib.cut (ptL A B) [46]).2.1 = B := by
  by_cases hb : B = []
  · subst hb
    have e : ptL A [] = A := by simp [ptL, restL]
    have e1 : Lib.index A [46] = -1 := by
      rw [Lib.index_one]
      clear e
      induction A with
      | nil => rfl
      | cons b r ih =>
        have n1 := dg_ne' (hA b (by simp))
        rw [Lib.indexByte, ih (fun c hc => hA c (by simp [hc]))]
        simp [n1]
    rw [e]
    unfold Lib.cut
    rw [if_neg (by omega)]
    exact ⟨rfl, rfl⟩
  · have e : ptL A B = A ++ 46 :: B := by simp [ptL, restL, hb]
    have e1 : Lib.index (A ++ 46 :: B) [46] = A.length := by
      rw [Lib.index_one]
      clear e
      induction A with
      | nil => rfl
      | cons b r ih =>
        have n1 := dg_ne' (hA b (by simp))
        have h := ih (fun c hc => hA c (by simp [hc]))
        rw [List.cons_append, Lib.indexByte, h]
        simp [n1]
        try omega
    rw [e]
    unfold Lib.cut
    rw [if_pos (by omega), e1]
    constructor
    · show (A ++ 46 :: B).take (A.length : Int).toNat = A
      rw [show (A.length : Int).toNat = A.length by omega]
      simp
    · show (A ++ 46 :: B).drop ((A.length : Int).toNat + 1) = B
      rw [show (A.length : Int).toNat + 1 = (A ++ [46]).length by simp, show A ++ 46 :: B = (A ++ [46]) ++ B by simp]
      exact List.drop_left
end Go.Proofs.YtebheehjhnaklaaGreatDoor
