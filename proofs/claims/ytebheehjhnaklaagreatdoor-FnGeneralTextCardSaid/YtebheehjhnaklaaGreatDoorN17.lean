import Derived.Test.YtebheehjhnaklaaGreatDoorN16
namespace Go.Proofs.YtebheehjhnaklaaGreatDoor
open Go.RowKit
def hdB (sep : ByteArray) : UInt8 := sep.data.toList.headD 0
def ungT (s : ByteArray) (n : Int) (sep : ByteArray) : Bool := decide (s.size ≤ 80 ∧ 1 ≤ n ∧ n ≤ 9 ∧ sep.size = 1) && ungB s.data.toList n.toNat (hdB sep)
def ungX (s : ByteArray) (n : Int) (sep : ByteArray) : ByteArray := if ungT s n sep then ⟨(wo (hdB sep) s.data.toList).toArray⟩ else ⟨#[]⟩
theorem one_byte {s : ByteArray} (h : s.size = 1) : ∃ c, s = ⟨#[c]⟩ := by
  rcases bytes_cases s with rfl | h' | h'
  · simp [ByteArray.size] at h
  · exact h'
  · omega
theorem ungT_no {s : ByteArray} {n : Int} {sep : ByteArray} (h : ¬ (s.size ≤ 80 ∧ 1 ≤ n ∧ n ≤ 9 ∧ sep.size = 1)) : ungT s n sep = false := by
  unfold ungT
  rw [decide_eq_false h]; rfl
theorem ungX_no {s : ByteArray} {n : Int} {sep : ByteArray} (h : ¬ (s.size ≤ 80 ∧ 1 ≤ n ∧ n ≤ 9 ∧ sep.size = 1)) : ungX s n sep = ⟨#[]⟩ := by
  unfold ungX
  rw [ungT_no h]; rfl
theorem ungT_yes {s : ByteArray} {n : Nat} {c : UInt8} (h1 : s.size ≤ 80) (h2 : 1 ≤ n) (h3 : n ≤ 9) : ungT s n ⟨#[c]⟩ = ungB s.data.toList n c := by
  unfold ungT
  rw [decide_eq_true ⟨h1, by omega, by omega, rfl⟩]; rfl
theorem ungX_yes {s : ByteArray} {n : Nat} {c : UInt8} (h1 : s.size ≤ 80) (h2 : 1 ≤ n) (h3 : n ≤ 9) : ungX s n ⟨#[c]⟩ = if ungB s.data.toList n c then ⟨(wo c s.data.toList).toArray⟩ else ⟨#[]⟩ := by
  unfold ungX
  rw [ungT_yes h1 h2 h3]; rfl
set_option maxRecDepth 100000 in
set_option maxHeartbeats 4000000 in
theorem UngroupDigits_any (s : ByteArray) (n : Int) (sep : ByteArray) (w : World) (hs : s.size ≤ 9223372036854775807) (hsep : sep.size ≤ 9223372036854775807) (hM : HasMax w) :
    Calls Tryz.prog 197 #[.string s, .int .i64 n, .string sep] w fun r w' => r = .returned (.tuple #[.string (ungX s n sep), .bool (ungT s n sep)]) ∧ Below w.heap.size w w' := by
  by_cases h : s.size ≤ 80 ∧ 1 ≤ n ∧ n ≤ 9 ∧ sep.size = 1
  · obtain ⟨h1, h2, h3, h4⟩ := h
    obtain ⟨m, rfl⟩ := Int.eq_ofNat_of_zero_le (show 0 ≤ n by omega)
    obtain ⟨c, rfl⟩ := one_byte h4
    rw [ungT_yes h1 (by omega) (by omega), ungX_yes h1 (by omega) (by omega)]
    exact UngroupDigits_one s m c w h1 (by omega) (by omega) hM
  · rw [ungT_no h, ungX_no h]
    have k1 := fun W => within_any n 1 9 W
    by_cases h1 : s.size ≤ 80
    · have i1 : (s.size : Int) ≤ 80 := by omega
      by_cases h2 : 1 ≤ n ∧ n ≤ 9
      · have h4 : ¬ sep.size = 1 := fun e => h ⟨h1, h2.1, h2.2, e⟩
        have i4 : ((sep.size : Int) == 1) = false := by simp; omega
        have i5 : ¬ (sep.size : Int) = 1 := by omega
        have i6 : ((sep.size : Int) != 1) = true := by simp; omega
        rw [show inr n 1 9 = true by simp [inr]; omega] at k1
        have K1 := Lib.hid k1
        clear k1 h hM
        go_enter Tryz.func197, Tryz.ntmps197
        go_wp2_with (go_at_call 44; (with_reducible refine Calls.mono (K1.out _) ?_); rintro r w1 ⟨rfl, rfl⟩)
        all_goals go_ret2
        all_goals exact ⟨rfl, (by repeat (first | with_reducible exact Below.refl _ _ | with_reducible assumption | with_reducible refine Below.setCell ?_ (by first | omega | (simp; done) | (simp <;> omega)) _ | with_reducible refine below_drewN ?_ _ | with_reducible refine Below.drew ?_ | with_reducible refine Below.alloc ?_ (by first | omega | (simp; done) | (simp <;> omega)) _))⟩
      · rw [show inr n 1 9 = false by simp [inr]; omega] at k1
        have K1 := Lib.hid k1
        clear k1 h hM
        go_enter Tryz.func197, Tryz.ntmps197
        go_wp2_with (go_at_call 44; (with_reducible refine Calls.mono (K1.out _) ?_); rintro r w1 ⟨rfl, rfl⟩)
        all_goals go_ret2
        all_goals exact ⟨rfl, (by repeat (first | with_reducible exact Below.refl _ _ | with_reducible assumption | with_reducible refine Below.setCell ?_ (by first | omega | (simp; done) | (simp <;> omega)) _ | with_reducible refine below_drewN ?_ _ | with_reducible refine Below.drew ?_ | with_reducible refine Below.alloc ?_ (by first | omega | (simp; done) | (simp <;> omega)) _))⟩
    · have i1 : (80 : Int) < s.size := by omega
      clear h hM
      go_enter Tryz.func197, Tryz.ntmps197
      go_wp2
      all_goals go_ret2
      all_goals exact ⟨rfl, (by repeat (first | with_reducible exact Below.refl _ _ | with_reducible assumption | with_reducible refine Below.setCell ?_ (by first | omega | (simp; done) | (simp <;> omega)) _ | with_reducible refine below_drewN ?_ _ | with_reducible refine Below.drew ?_ | with_reducible refine Below.alloc ?_ (by first | omega | (simp; done) | (simp <;> omega)) _))⟩
set_option maxRecDepth 100000 in
set_option maxHeartbeats 4000000 in
theorem withoutS_any (s : ByteArray) (c : UInt8) (w : World) (hs : s.size ≤ 1000) :
    Calls Tryz.prog 135 #[.string s, .int .u8 c.toNat] w fun r w' => r = .returned (.string ⟨(wo c s.data.toList).toArray⟩) ∧ w = w' := by
  go_enter Tryz.func135, Tryz.ntmps135
  go_wp2
  go_loopg [5, 6] s.size (fun g s4 s5 wr => ∃ (k : Nat) (out : List UInt8), wr = w ∧ s4 = .string ⟨out.toArray⟩ ∧ s5 = .int .i64 k ∧ k ≤ s.size ∧ out.length ≤ k ∧ Aside (out ++ wo c (s.data.toList.drop k) = wo c s.data.toList) ∧ Aside (g = s.size - k))
  case atStart => exact ⟨0, [], rfl, rfl, rfl, by omega, by simp, by show _ = _; simp, by show _ = _; omega⟩
  case round =>
    obtain ⟨k, out, rfl, rfl, rfl, hk, ho, hG, hg⟩ := hrel
    have hG' := hG.out
    have hg' := hg.out
    clear hG hg
    by_cases hlt : k < s.size
    · have i1 : (k : Int) < s.size := by omega
      have i2 : (k : Int) + 1 ≤ s.size := by omega
      have T1 := wo_step c hlt
      by_cases hc : s[k] = c
      · rw [if_pos (by simp [hc]), List.nil_append] at T1
        rw [T1] at hG'
        have e1 : ((s[k].toNat : Int) == (c.toNat : Int)) = true := by rw [hc]; simp
        have e2 : ((s[k].toNat : Int) != (c.toNat : Int)) = false := by simp [bne, e1]
        have HG := Lib.hid hG'
        clear hG' T1 hc
        go_wp2
        go_roundg (s.size - (k + 1))
        case measure => omega
        case rel => exact ⟨k + 1, out, rfl, rfl, by go_num, by omega, by omega, HG.out, rfl⟩
      · rw [if_neg (by simp [hc])] at T1
        rw [T1] at hG'
        have e0 : ¬ ((s[k].toNat : Int) = (c.toNat : Int)) := fun e => hc (UInt8.toNat_inj.1 (by omega))
        have e1 : ((s[k].toNat : Int) == (c.toNat : Int)) = false := by simpa using e0
        have e2 : ((s[k].toNat : Int) != (c.toNat : Int)) = true := by simp [bne, e1]
        have HG := Lib.hid hG'
        clear hG' T1 hc
        go_wp2
        go_roundg (s.size - (k + 1))
        case measure => omega
        case rel => exact ⟨k + 1, out ++ [s[k]], rfl, by rw [cat_one out hlt], by go_num, by omega, by simp; omega, by show _ = _; rw [List.append_assoc]; exact HG.out, rfl⟩
    · have i1 : ¬ (k : Int) < s.size := by omega
      have hll : s.data.toList.length = s.size := by rw [Array.length_toList]; rfl
      rw [List.drop_eq_nil_of_le (by omega)] at hG'
      have e : out = wo c s.data.toList := by simpa [wo] using hG'
      subst e
      clear hG'
      go_wp2
      go_ret
      exact ⟨rfl, rfl⟩
end Go.Proofs.YtebheehjhnaklaaGreatDoor
