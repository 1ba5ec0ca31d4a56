import Derived.Test.YtejganoipbblcaaDoorT1
import Derived.Test.YtejganoipbblcaaDoorHSh
import Derived.Lib.Replace
import Derived.Handy
namespace Go.Proofs.YtejganoipbblcaaDoor
open Go Go.RowKit
theorem cat_lE (a b : List UInt8) : (⟨a.toArray⟩ : ByteArray) ++ ⟨b.toArray⟩ = ⟨(a ++ b).toArray⟩ := by
  apply ByteArray.ext
  rw [ByteArray.data_append]
  simp
def dbl (c : UInt8) (l : List UInt8) : List UInt8 := l.flatMap fun b => if b == c then [b, b] else [b]
theorem dbl_append (c : UInt8) (a b : List UInt8) : dbl c (a ++ b) = dbl c a ++ dbl c b := by simp [dbl]
theorem dbl_self {c : UInt8} {l : List UInt8} (h : ∀ b ∈ l, b ≠ c) : dbl c l = l := by
  induction l with
  | nil => rfl
  | cons a r ih =>
    have ha := h a (by simp)
    have := ih (fun b hb => h b (by simp [hb]))
    unfold dbl at *
    rw [List.flatMap_cons, this]
    simp [ha]
theorem dbl_len (c : UInt8) (l : List UInt8) : (dbl c l).length ≤ 2 * l.length := by
  induction l with
  | nil => simp [dbl]
  | cons a r ih =>
    unfold dbl at *
    rw [List.flatMap_cons, List.length_append, List.length_cons]
    split <;> simp only [List.length_cons, List.length_nil] <;> omega
/-- the first place of a byte -/
theorem index_one_cases (c : UInt8) : ∀ l : List UInt8, (Lib.index l [c] = -1 ∧ ∀ b ∈ l, b ≠ c) ∨ ∃ i : Nat, Lib.index l [c] = i ∧ i < l.length ∧ (∀ b ∈ l.take i, b ≠ c) ∧ l = l.take i ++ c :: l.drop (i + 1)
  | [] => .inl ⟨rfl, fun b hb => by cases hb⟩
  | b :: l => by
    by_cases hb : b = c
    · subst hb
      exact .inr ⟨0, by simp [Lib.index], by simp, by simp, by simp⟩
    · have h0 : ([c] : List UInt8).isPrefixOf (b :: l) = false := by
        simp only [List.isPrefixOf, Bool.and_true]
        simpa using fun e => hb e.symm
      rcases index_one_cases c l with ⟨h1, h2⟩ | ⟨i, h1, hi, h2, h3⟩
      · refine .inl ⟨by simp [Lib.index, h0, h1], fun x hx => ?_⟩
        rcases List.mem_cons.1 hx with rfl | hx
        · exact hb
        · exact h2 x hx
      · refine .inr ⟨i + 1, ?_, by simp; omega, fun x hx => ?_, ?_⟩
        · have hne : ¬ ((i : Int) == -1) = true := fun e => by have := beq_iff_eq.1 e; omega
          simp only [Lib.index, h0, h1]
          rw [if_neg (by simp), if_neg hne]
          rfl
        · simp only [List.take_succ_cons] at hx
          rcases List.mem_cons.1 hx with rfl | hx
          · exact hb
          · exact h2 x hx
        · conv => lhs; rw [h3]
          simp
theorem replace_dbl (c : UInt8) : ∀ (k : Nat) (l : List UInt8), l.length ≤ k → Lib.replaceK [c] [c, c] (Lib.count l [c]) l = dbl c l := by
  intro k
  induction k with
  | zero =>
    intro l hl
    obtain rfl : l = [] := List.length_eq_zero_iff.1 (by omega)
    rcases index_one_cases c [] with ⟨h1, h2⟩ | ⟨i, h1, hi, h2, h3⟩
    · rw [Lib.count_miss h1]; rfl
    · simp at hi
  | succ k ih =>
    intro l hl
    rcases index_one_cases c l with ⟨h1, h2⟩ | ⟨i, h1, hi, h2, h3⟩
    · rw [Lib.count_miss h1, dbl_self h2]; rfl
    · have hd : (l.drop (i + 1)).length ≤ k := by rw [List.length_drop]; omega
      rw [Lib.count_hit (by simp) h1, Nat.add_comm 1, Lib.replaceK_hit _ _ _ _ i h1, List.length_singleton, ih _ hd]
      conv => rhs; rw [h3]
      rw [dbl_append, dbl_self h2, List.append_assoc]
      congr 1
      simp [dbl]
theorem count_bd (c : UInt8) : ∀ (k : Nat) (l : List UInt8), l.length ≤ k → Lib.count l [c] ≤ l.length := by
  intro k
  induction k with
  | zero =>
    intro l hl
    obtain rfl : l = [] := List.length_eq_zero_iff.1 (by omega)
    rcases index_one_cases c [] with ⟨h1, h2⟩ | ⟨i, h1, hi, h2, h3⟩
    · rw [Lib.count_miss h1]; simp
    · simp at hi
  | succ k ih =>
    intro l hl
    rcases index_one_cases c l with ⟨h1, h2⟩ | ⟨i, h1, hi, h2, h3⟩
    · rw [Lib.count_miss h1]; omega
    · have hd : (l.drop (i + 1)).length ≤ k := by rw [List.length_drop]; omega
      have := ih _ hd
      rw [List.length_drop] at this
      rw [Lib.count_hit (by simp) h1, List.length_singleton]
      omega
theorem replaceAll_dbl (c : UInt8) (l : List UInt8) : Lib.replaceAll l [c] [c, c] = dbl c l := by
  have : Lib.replaceAll l [c] [c, c] = Lib.replaceK [c] [c, c] (Lib.count l [c]) l := by
    unfold Lib.replaceAll Lib.replace Lib.replaceNum
    rw [if_neg (by simp), if_pos (.inl (by omega))]
  rw [this]
  exact replace_dbl c l.length l (Nat.le_refl _)
/-- a text with its braces twice -/
def esc (l : List UInt8) : List UInt8 := l.flatMap fun b => if b == 123 || b == 125 then [b, b] else [b]
theorem esc_cons (b : UInt8) (l : List UInt8) : esc (b :: l) = (if b == 123 || b == 125 then [b, b] else [b]) ++ esc l := by simp [esc]
theorem dbl_cons (c b : UInt8) (l : List UInt8) : dbl c (b :: l) = (if b == c then [b, b] else [b]) ++ dbl c l := by simp [dbl]
theorem dbl_esc (l : List UInt8) : dbl 125 (dbl 123 l) = esc l := by
  induction l with
  | nil => rfl
  | cons b l ih =>
    rw [dbl_cons, dbl_append, ih, esc_cons]
    congr 1
    by_cases h1 : b = 123
    · subst h1; rfl
    · by_cases h2 : b = 125
      · subst h2; rfl
      · simp [h1, h2, dbl]
theorem esc_len (l : List UInt8) : (esc l).length ≤ 2 * l.length := by
  induction l with
  | nil => simp [esc]
  | cons b l ih =>
    rw [esc_cons, List.length_append, List.length_cons]
    split <;> simp only [List.length_cons, List.length_nil] <;> omega
theorem ReplaceAll_dbl (c : UInt8) (l : List UInt8) (hl : l.length ≤ 2000) (w : World) (hM : HasMax w) :
    Calls Tryd.prog 65 #[.string ⟨l.toArray⟩, .string ⟨#[c]⟩, .string ⟨#[c, c]⟩] w fun r w' => r = .returned (.string ⟨(dbl c l).toArray⟩) ∧ Below w.heap.size w w' := by
  obtain ⟨_, m, hm⟩ := hM
  have hc := count_bd c l.length l (Nat.le_refl _)
  have h := Tryd.strings_ReplaceAll ⟨l.toArray⟩ ⟨#[c]⟩ ⟨#[c, c]⟩ m w (by show l.length < _; omega) hm (by show 1 ≤ 1; omega) (by show l.length + Lib.count l [c] * 2 ≤ _; omega)
  rw [show (⟨l.toArray⟩ : ByteArray).data.toList = l from rfl, show (⟨#[c]⟩ : ByteArray).data.toList = [c] from rfl, show (⟨#[c, c]⟩ : ByteArray).data.toList = [c, c] from rfl, replaceAll_dbl] at h
  exact h
theorem twice_any (c : UInt8) (l : List UInt8) (hl : l.length ≤ 400) (w : World) (hM : HasMax w) :
    Calls Tryd.prog 48 #[.string ⟨l.toArray⟩, .string ⟨#[c]⟩] w fun r w' => r = .returned (.string ⟨(dbl c l).toArray⟩) ∧ Below w.heap.size w w' := by
  have k1 := fun W h => ReplaceAll_dbl c l (by omega) W h
  have hB := Below.refl w.heap.size w
  have e : (⟨#[c]⟩ : ByteArray) ++ ⟨#[c]⟩ = ⟨#[c, c]⟩ := by apply ByteArray.ext; rw [ByteArray.data_append]; rfl
  have K1 := Lib.hid k1
  clear k1
  go_enter Tryd.func48, Tryd.ntmps48
  go_wp2_with (first | (go_at_call 65; (with_reducible refine Calls.mono (K1.out _ (hM.on hB)) ?_); rintro r w1 ⟨rfl, hb⟩; replace hB := hB.trans (hb.mono hB.size)))
  go_ret
  exact ⟨rfl, hB⟩
theorem doubled_any (l : List UInt8) (hl : l.length ≤ 200) (w : World) (hM : HasMax w) :
    Calls Tryd.prog 28 #[.string ⟨l.toArray⟩] w fun r w' => r = .returned (.string ⟨(esc l).toArray⟩) ∧ Below w.heap.size w w' := by
  have k1 := fun W h => twice_any 123 l (by omega) W h
  have h2 := dbl_len 123 l
  have k2 := fun W h => twice_any 125 (dbl 123 l) (by omega) W h
  rw [dbl_esc] at k2
  generalize dbl 123 l = D at *
  generalize esc l = E at *
  have hB := Below.refl w.heap.size w
  have K1 := Lib.hid k1; have K2 := Lib.hid k2
  clear k1 k2 h2
  go_enter Tryd.func28, Tryd.ntmps28
  go_wp2_with (first | (go_at_call 48; (fail_if_success (have kT := tok1)); (with_reducible refine Calls.mono (K1.out _ hM) ?_); rintro r w1 ⟨rfl, hb⟩; replace hB := hB.trans (hb.mono hB.size); have tok1 : ∃ n : Nat, n = 0 := ⟨0, rfl⟩) | (go_at_call 48; (with_reducible refine Calls.mono (K2.out _ (hM.on hB)) ?_); rintro r w2 ⟨rfl, hb⟩; replace hB := hB.trans (hb.mono hB.size)))
  go_ret
  exact ⟨rfl, hB⟩
def esW (s : ByteArray) : ByteArray := if vtB s then ⟨(esc s.data.toList).toArray⟩ else ⟨#[]⟩
theorem vt_size {s : ByteArray} (h : vtB s = true) : s.size ≤ 80 := by
  unfold vtB at h
  simp only [Bool.and_eq_true, decide_eq_true_eq] at h
  exact h.1
theorem EscapeText_any (s : ByteArray) (hs : s.size ≤ 9223372036854775807) (w : World) (hM : HasMax w) :
    Calls Tryd.prog 13 #[.string s] w fun r w' => r = .returned (.string (esW s)) ∧ Below w.heap.size w w' := by
  have k1 := fun W => mBn (ValidText_any s hs W)
  have hB := Below.refl w.heap.size w
  unfold esW
  cases hv : vtB s
  · rw [hv] at k1
    have K1 := Lib.hid k1
    clear k1 hv
    show Calls Tryd.prog 13 _ w fun r w' => r = .returned (.string ⟨#[]⟩) ∧ _
    go_enter Tryd.func13, Tryd.ntmps13
    go_wp2_with (first | (go_at_call 27; (with_reducible refine Calls.mono (K1.out _) ?_); rintro r w1 ⟨rfl, hb⟩; replace hB := hB.trans (hb.mono hB.size)))
    go_ret
    exact ⟨rfl, hB⟩
  · rw [hv] at k1
    have hz := vt_size hv
    have k2 := fun W h => doubled_any s.data.toList (by rw [Array.length_toList]; show s.size ≤ 200; omega) W h
    have e : (⟨s.data.toList.toArray⟩ : ByteArray) = s := by apply ByteArray.ext; simp
    rw [e] at k2
    show Calls Tryd.prog 13 _ w fun r w' => r = .returned (.string ⟨(esc s.data.toList).toArray⟩) ∧ _
    generalize (⟨(esc s.data.toList).toArray⟩ : ByteArray) = X at *
    have K1 := Lib.hid k1; have K2 := Lib.hid k2
    clear k1 k2 hv e
    go_enter Tryd.func13, Tryd.ntmps13
    go_wp2_with (first | (go_at_call 27; (with_reducible refine Calls.mono (K1.out _) ?_); rintro r w1 ⟨rfl, hb⟩; replace hB := hB.trans (hb.mono hB.size)) | (go_at_call 28; (with_reducible refine Calls.mono (K2.out _ (hM.on hB)) ?_); rintro r w1 ⟨rfl, hb⟩; replace hB := hB.trans (hb.mono hB.size)))
    go_ret
    exact ⟨rfl, hB⟩
set_option maxRecDepth 100000 in
set_option maxHeartbeats 4000000 in
theorem escapedS_any (s : ByteArray) (hs : s.size ≤ 200) (w : World) :
    Calls Tryd.prog 26 #[.string s] w fun r w' => r = .returned (.string ⟨(esc s.data.toList).toArray⟩) ∧ Below w.heap.size w w' := by
  have hB := Below.refl w.heap.size w
  generalize hE : esc s.data.toList = E at *
  have HE := Lib.hid hE
  clear hE
  go_enter Tryd.func26, Tryd.ntmps26
  go_wp2
  go_loopg [3, 4] s.size (fun g s3 s4 wr => ∃ (k : Nat) (O : List UInt8), w = wr ∧ s3 = .string ⟨O.toArray⟩ ∧ s4 = .int .i64 k ∧ k ≤ s.size ∧ Aside (O.length ≤ 2 * k) ∧ Aside (g = s.size - k) ∧ Aside (O ++ esc (s.data.toList.drop k) = E))
  case atStart => exact ⟨0, [], rfl, rfl, rfl, by omega, by show 0 ≤ _; omega, by show _ = _; omega, by show _ = _; rw [List.drop_zero]; exact HE.out⟩
  case round =>
    obtain ⟨k, O, rfl, rfl, rfl, hk, hO, hg, hv⟩ := hrel
    have hg' := hg.out
    have hv' := hv.out
    have hO' := hO.out
    clear hg hv hO
    have o1 : (⟨O.toArray⟩ : ByteArray).size ≤ 400 := by show O.length ≤ _; omega
    have o3 : ¬ (9223372036854775807 < O.length + 1) := by omega
    have o4 : ¬ (9223372036854775807 < O.length + 1 + 1) := by omega
    by_cases hlt : k < s.size
    · have j1 : (k : Int) < s.size := by omega
      have j2 : (k : Int) + 1 ≤ s.size := by omega
      have e1 := ext_one hlt
      have hd : s.data.toList.drop k = s[k] :: s.data.toList.drop (k + 1) := by
        have h' : k < s.data.toList.length := by rw [Array.length_toList]; exact hlt
        rw [List.drop_eq_getElem_cons h']
        rfl
      rw [hd, esc_cons] at hv'
      obtain ⟨b, hb⟩ : ∃ b, s[k] = b := ⟨_, rfl⟩
      rw [hb] at hv' e1
      by_cases hc : b = 123 ∨ b = 125
      · have hv2 : ((O ++ [b]) ++ [b]) ++ esc (s.data.toList.drop (k + 1)) = E := by
          rw [← hv', if_pos (by simpa using hc)]; simp
        have HV := Lib.hid hv2
        have HL : Hid ((((O ++ [b]) ++ [b])).length ≤ 2 * (k + 1)) := Lib.hid (by simp; omega)
        have c1 : (⟨O.toArray⟩ : ByteArray) ++ ⟨#[b]⟩ = ⟨(O ++ [b]).toArray⟩ := cat_lE O [b]
        have c2 : (⟨(O ++ [b]).toArray⟩ : ByteArray) ++ ⟨#[b]⟩ = ⟨((O ++ [b]) ++ [b]).toArray⟩ := cat_lE (O ++ [b]) [b]
        have o2 : (⟨(O ++ [b]).toArray⟩ : ByteArray).size ≤ 401 := by show (O ++ [b]).length ≤ _; simp; omega
        clear hv2 hv' hd hO'
        rcases hc with rfl | rfl
        all_goals
          go_wp2
          go_roundg (s.size - (k + 1))
          case measure => omega
          case rel => exact ⟨k + 1, _, rfl, by first | rfl | (rw [List.append_assoc]; rfl), by go_num, by omega, HL.out, rfl, HV.out⟩
      · have hv2 : (O ++ [b]) ++ esc (s.data.toList.drop (k + 1)) = E := by
          rw [← hv', if_neg (by simpa using hc)]; simp
        have HV := Lib.hid hv2
        have HL : Hid (((O ++ [b])).length ≤ 2 * (k + 1)) := Lib.hid (by simp; omega)
        have c1 : (⟨O.toArray⟩ : ByteArray) ++ ⟨#[b]⟩ = ⟨(O ++ [b]).toArray⟩ := cat_lE O [b]
        have n1 : ((b.toNat : Int) == 123) = false := by
          have : ¬ b.toNat = 123 := fun e => hc (.inl (by apply UInt8.toNat_inj.1; exact e))
          simp; omega
        have n2 : ((b.toNat : Int) == 125) = false := by
          have : ¬ b.toNat = 125 := fun e => hc (.inr (by apply UInt8.toNat_inj.1; exact e))
          simp; omega
        clear hv2 hv' hd hO' hc
        go_wp2
        go_roundg (s.size - (k + 1))
        case measure => omega
        case rel => exact ⟨k + 1, _, rfl, by first | rfl | rw [c1], by go_num, by omega, HL.out, rfl, HV.out⟩
    · have j1 : ¬ (k : Int) < s.size := by omega
      rw [List.drop_eq_nil_of_le (by rw [Array.length_toList]; show s.size ≤ k; omega), show esc [] = [] from rfl, List.append_nil] at hv'
      have HV := Lib.hid hv'
      clear hv'
      go_wp2
      go_ret
      exact ⟨by rw [HV.out]; rfl, hB⟩
theorem EscapeTextS_any (s : ByteArray) (hs : s.size ≤ 9223372036854775807) (w : World) :
    Calls Tryd.prog 12 #[.string s] w fun r w' => r = .returned (.string (esW s)) ∧ Below w.heap.size w w' := by
  have k1 := fun W => mBn (validTextS_any s hs W)
  have hB := Below.refl w.heap.size w
  unfold esW
  cases hv : vtB s
  · rw [hv] at k1
    have K1 := Lib.hid k1
    clear k1 hv
    show Calls Tryd.prog 12 _ w fun r w' => r = .returned (.string ⟨#[]⟩) ∧ _
    go_enter Tryd.func12, Tryd.ntmps12
    go_wp2_with (first | (go_at_call 25; (with_reducible refine Calls.mono (K1.out _) ?_); rintro r w1 ⟨rfl, hb⟩; replace hB := hB.trans (hb.mono hB.size)))
    go_ret
    exact ⟨rfl, hB⟩
  · rw [hv] at k1
    have hz := vt_size hv
    have k2 := fun W => escapedS_any s (by omega) W
    show Calls Tryd.prog 12 _ w fun r w' => r = .returned (.string ⟨(esc s.data.toList).toArray⟩) ∧ _
    generalize (⟨(esc s.data.toList).toArray⟩ : ByteArray) = X at *
    have K1 := Lib.hid k1; have K2 := Lib.hid k2
    clear k1 k2 hv
    go_enter Tryd.func12, Tryd.ntmps12
    go_wp2_with (first | (go_at_call 25; (with_reducible refine Calls.mono (K1.out _) ?_); rintro r w1 ⟨rfl, hb⟩; replace hB := hB.trans (hb.mono hB.size)) | (go_at_call 26; (with_reducible refine Calls.mono (K2.out _) ?_); rintro r w1 ⟨rfl, hb⟩; replace hB := hB.trans (hb.mono hB.size)))
    go_ret
    exact ⟨rfl, hB⟩
end Go.Proofs.YtejganoipbblcaaDoor
