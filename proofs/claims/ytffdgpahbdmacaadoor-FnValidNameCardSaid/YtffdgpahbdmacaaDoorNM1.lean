import Derived.Test.YtffdgpahbdmacaaDoorV2
import Derived.Test.YtffdgpahbdmacaaDoorAB
import Derived.Test.YtffdgpahbdmacaaDoorU
import Derived.Shelf.Strings.SlTrimAscii
import Derived.Handy
namespace Go.Proofs.YtffdgpahbdmacaaDoor
open Go Go.RowKit
def ltrs : List UInt8 := [97, 98, 99, 100, 101, 102, 103, 104, 105, 106, 107, 108, 109, 110, 111, 112, 113, 114, 115, 116, 117, 118, 119, 120, 121, 122]
def isLow (b : UInt8) : Bool := decide (97 ≤ b.toNat) && decide (b.toNat ≤ 122)
def isDig (b : UInt8) : Bool := decide (48 ≤ b.toNat) && decide (b.toNat ≤ 57)
theorem ltrs_low (b : UInt8) : ltrs.contains b = isLow b := eq_of_beq (all_bytes (fun b => ltrs.contains b == isLow b) (by kernel_rfl) b)
theorem low_dig {b : UInt8} (h : isDig b = true) : isLow b = false := by
  unfold isDig at h
  unfold isLow
  simp only [Bool.and_eq_true, decide_eq_true_eq] at h
  rw [decide_eq_false (by omega)]
  rfl
/-- a name of letters -/
def lnB (l : List UInt8) : Bool := (decide (1 ≤ l.length) && decide (l.length ≤ 4)) && l.all isLow
/-- a name of one digit -/
def dnB : List UInt8 → Bool
  | [b] => isDig b
  | _ => false
/-- a name -/
def vnB (l : List UInt8) : Bool := l.isEmpty || (dnB l || lnB l)
theorem dw_nil (p : UInt8 → Bool) (l : List UInt8) : l.dropWhile p = [] ↔ ∀ x ∈ l, p x = true := by
  induction l with
  | nil => simp
  | cons a r ih =>
    cases h : p a
    · rw [List.dropWhile_cons_of_neg (by simp [h])]
      simp [h]
    · rw [List.dropWhile_cons_of_pos h, ih]
      simp [h]
theorem trim_nil (l : List UInt8) : (Lib.trimS l ltrs).isEmpty = l.all isLow := by
  have hp : ∀ b, (ltrs.contains ·) b = isLow b := ltrs_low
  unfold Lib.trimS Lib.trimLeftS Lib.trimRightS
  have hf : (fun x => ltrs.contains x) = isLow := funext hp
  rw [hf]
  cases h : l.all isLow
  · have hr : l.reverse.dropWhile isLow ≠ [] := by
      intro e
      rw [dw_nil] at e
      have : l.all isLow = true := List.all_eq_true.2 (fun x hx => e x (by simpa using hx))
      rw [this] at h; cases h
    cases hd : (l.reverse.dropWhile isLow) with
    | nil => exact absurd hd hr
    | cons a r =>
      have ha : isLow a = false := by
        have := List.head_dropWhile_not isLow (l := l.reverse) (by rw [hd]; simp)
        simpa [hd] using this
      cases hq : (a :: r).reverse.dropWhile isLow with
      | nil =>
        rw [dw_nil] at hq
        have := hq a (by simp)
        rw [ha] at this; cases this
      | cons _ _ => rfl
  · have hr : l.reverse.dropWhile isLow = [] := by
      rw [dw_nil]
      exact fun x hx => List.all_eq_true.1 h x (by simpa using hx)
    rw [hr]
    rfl
theorem Trim_letters (s : ByteArray) (hs : s.size ≤ 9223372036854775807) (w : World) :
    Calls Tryd.prog 72 #[.string s, .string ⟨#[97, 98, 99, 100, 101, 102, 103, 104, 105, 106, 107, 108, 109, 110, 111, 112, 113, 114, 115, 116, 117, 118, 119, 120, 121, 122]⟩] w fun e w' => e = .returned (.string ⟨(Lib.trimS s.data.toList ltrs).toArray⟩) ∧ Below w.heap.size w w' :=
  Any.strings_Trim_laid Tryd.lays160 (by kernel_rfl) s ⟨ltrs.toArray⟩ w hs (by decide) (ascii_of_all (by decide))
theorem mB1 {fn : FuncId} {args : Array Value} {v : Value} {w : World} (h : Calls Tryd.prog fn args w fun r w' => r = .returned v ∧ w = w') : Calls Tryd.prog fn args w fun r w' => r = .returned v ∧ Below w.heap.size w w' := h.mono (by rintro r w1 ⟨rfl, rfl⟩; exact ⟨rfl, Below.refl _ _⟩)
set_option maxRecDepth 100000 in
set_option maxHeartbeats 4000000 in
theorem isLetterName_any (s : ByteArray) (hs : s.size ≤ 9223372036854775807) (w : World) :
    Calls Tryd.prog 43 #[.string s] w fun r w' => r = .returned (.bool (lnB s.data.toList)) ∧ Below w.heap.size w w' := by
  have k1 := fun W => mB1 (within_any s.size 1 4 W)
  have k2 := fun W => Trim_letters s hs W
  have hl : s.data.toList.length = s.size := by rw [Array.length_toList]; rfl
  have hin : inr s.size 1 4 = (decide (1 ≤ s.size) && decide (s.size ≤ 4)) := by unfold inr; rw [Bool.eq_iff_iff]; simp; omega
  have ht := trim_nil s.data.toList
  unfold lnB
  rw [hl]
  rw [hin] at k1
  generalize (decide (1 ≤ s.size) && decide (s.size ≤ 4)) = b at *
  generalize Lib.trimS s.data.toList ltrs = T at *
  rw [← ht]
  clear hin ht hl
  have hB := Below.refl w.heap.size w
  have K1 := Lib.hid k1
  clear k1
  cases b
  · go_enter Tryd.func43, Tryd.ntmps43
    go_wp2_with (go_at_call 30; (with_reducible refine Calls.mono (K1.out _) ?_); rintro r w1 ⟨rfl, hb⟩; replace hB := hB.trans (hb.mono hB.size))
    go_ret
    exact ⟨rfl, hB⟩
  · cases T with
    | nil =>
      have K2 := Lib.hid k2
      clear k2
      go_enter Tryd.func43, Tryd.ntmps43
      go_wp2_with (first | (go_at_call 30; (with_reducible refine Calls.mono (K1.out _) ?_); rintro r w1 ⟨rfl, hb⟩; replace hB := hB.trans (hb.mono hB.size)) | (go_at_call 72; (with_reducible refine Calls.mono (K2.out _) ?_); rintro r w1 ⟨rfl, hb⟩; replace hB := hB.trans (hb.mono hB.size)))
      go_ret
      exact ⟨rfl, hB⟩
    | cons a r =>
      have hne : (⟨(a :: r).toArray⟩ : ByteArray).toList.isEmpty = false := nonempty_list (by show 1 ≤ (a :: r).length; simp)
      have hne2 : (!(⟨(a :: r).toArray⟩ : ByteArray).toList.isEmpty) = true := by rw [hne]; rfl
      have hne3 : ((⟨(a :: r).toArray⟩ : ByteArray).toList == []) = false := by
        generalize (⟨(a :: r).toArray⟩ : ByteArray).toList = L at hne
        cases L with
        | nil => cases hne
        | cons _ _ => rfl
      show Calls Tryd.prog 43 _ w fun r w' => r = .returned (.bool false) ∧ _
      generalize (⟨(a :: r).toArray⟩ : ByteArray) = X at *
      have K2 := Lib.hid k2
      clear k2
      go_enter Tryd.func43, Tryd.ntmps43
      go_wp2_with (first | (go_at_call 30; (with_reducible refine Calls.mono (K1.out _) ?_); rintro r w1 ⟨rfl, hb⟩; replace hB := hB.trans (hb.mono hB.size)) | (go_at_call 72; (with_reducible refine Calls.mono (K2.out _) ?_); rintro r w1 ⟨rfl, hb⟩; replace hB := hB.trans (hb.mono hB.size)))
      go_ret
      exact ⟨rfl, hB⟩
set_option maxRecDepth 100000 in
set_option maxHeartbeats 4000000 in
theorem isDigitName_any (s : ByteArray) (w : World) :
    Calls Tryd.prog 42 #[.string s] w fun r w' => r = .returned (.bool (dnB s.data.toList)) ∧ Below w.heap.size w w' := by
  rcases bytes_cases s with rfl | ⟨b, rfl⟩ | h
  · go_enter Tryd.func42, Tryd.ntmps42
    go_wp2
    go_ret
    exact ⟨rfl, Below.refl _ _⟩
  · have k1 := fun W => mB1 (within_any b.toNat 48 57 W)
    have hin : inr b.toNat 48 57 = isDig b := by unfold inr isDig; rw [Bool.eq_iff_iff]; simp; omega
    rw [hin] at k1
    show Calls Tryd.prog 42 _ w fun r w' => r = .returned (.bool (isDig b)) ∧ _
    generalize isDig b = x at *
    have hx : ∀ h, (⟨#[b]⟩ : ByteArray)[0]'h = b := fun _ => rfl
    have hz : ((⟨#[b]⟩ : ByteArray).size : Int) = 1 := rfl
    have hz2 : 0 < (⟨#[b]⟩ : ByteArray).size := by show 0 < 1; omega
    have hb1 : (b.toNat : Int) ≤ 255 := by have := b.toNat_lt; omega
    have hb2 : (0 : Int) ≤ b.toNat := Int.natCast_nonneg _
    generalize (⟨#[b]⟩ : ByteArray) = s at *
    have K1 := Lib.hid k1
    clear k1 hin
    go_enter Tryd.func42, Tryd.ntmps42
    go_wp2_with (go_at_call 30; (with_reducible refine Calls.mono (K1.out _) ?_); rintro r w1 ⟨rfl, hb⟩)
    go_ret
    exact ⟨rfl, hb⟩
  · have hd : dnB s.data.toList = false := by
      obtain ⟨⟨l⟩⟩ := s
      match l, h with
      | _ :: _ :: _, _ => rfl
    rw [hd]
    have h' : ¬ (s.size : Int) = 1 := by omega
    have h2 : ((s.size : Int) == 1) = false := by simpa using h'
    go_enter Tryd.func42, Tryd.ntmps42
    go_wp2
    go_ret
    exact ⟨rfl, Below.refl _ _⟩
set_option maxRecDepth 100000 in
set_option maxHeartbeats 4000000 in
theorem ValidName_any (s : ByteArray) (hs : s.size ≤ 9223372036854775807) (w : World) :
    Calls Tryd.prog 18 #[.string s] w fun r w' => r = .returned (.bool (vnB s.data.toList)) ∧ Below w.heap.size w w' := by
  have k1 := fun W => isDigitName_any s W
  have k2 := fun W => isLetterName_any s hs W
  have hB := Below.refl w.heap.size w
  by_cases h0 : s.size = 0
  · have hl : s.data.toList = [] := List.length_eq_zero_iff.1 (by rw [Array.length_toList]; exact h0)
    have e : s = ⟨#[]⟩ := by
      apply ByteArray.ext
      exact Array.ext' hl
    subst e
    clear hl h0 k1 k2
    go_enter Tryd.func18, Tryd.ntmps18
    go_wp2
    go_ret
    exact ⟨rfl, hB⟩
  · have hne := nonempty_list (s := s) (by omega)
    have hv : vnB s.data.toList = (dnB s.data.toList || lnB s.data.toList) := by
      unfold vnB
      rw [← Lib.toList_data, hne]
      rfl
    rw [hv]
    generalize dnB s.data.toList = a at *
    generalize lnB s.data.toList = b at *
    have K1 := Lib.hid k1; have K2 := Lib.hid k2
    clear k1 k2 hv h0
    cases a
    all_goals
      go_enter Tryd.func18, Tryd.ntmps18
      go_wp2_with (first | (go_at_call 42; (with_reducible refine Calls.mono (K1.out _) ?_); rintro r w1 ⟨rfl, hb⟩; replace hB := hB.trans (hb.mono hB.size)) | (go_at_call 43; (with_reducible refine Calls.mono (K2.out _) ?_); rintro r w1 ⟨rfl, hb⟩; replace hB := hB.trans (hb.mono hB.size)))
      go_ret
      exact ⟨rfl, hB⟩
end Go.Proofs.YtffdgpahbdmacaaDoor
