import Derived.Test.YtamlnbciejnbdaaGreatDoorE6
import Derived.Test.YtamlnbciejnbdaaGreatDoorAB
import Derived.Shelf.Vars
import Derived.Handy
namespace Go.Proofs.YtamlnbciejnbdaaGreatDoor
open Go Go.RowKit
set_option maxHeartbeats 1000000 in
theorem digitValue_any (n : Int) (h0 : 0 ≤ n) (h1 : n < 256) (w : World) :
    Calls Tryz.prog 105 #[.int .u8 n] w fun r w' => r = .returned (.int .i64 (dg n)) ∧ w = w' := by
  have u1 : 48 ≤ n → IntKind.u8.wrap (n - 48) = n - 48 := fun h => by rw [IntKind.wrap_u8]; omega
  have u2 : 97 ≤ n → IntKind.u8.wrap (n - 97) = n - 97 := fun h => by rw [IntKind.wrap_u8]; omega
  have u3 : 65 ≤ n → IntKind.u8.wrap (n - 65) = n - 65 := fun h => by rw [IntKind.wrap_u8]; omega
  go_enter Tryz.func105, Tryz.ntmps105
  go_wp2
  all_goals go_ret
  all_goals refine ⟨ret_int ?_, rfl⟩
  all_goals first | (unfold dg; (repeat' split) <;> omega)
theorem valRun_step {base n : Int} {s : ByteArray} {k : Nat} (h : k < s.size) : vRun base (s.data.toList.drop k) n = if dg (s[k].toNat) ≥ base then -1 else if n * base + dg (s[k].toNat) > 999999999999 then -1 else vRun base (s.data.toList.drop (k + 1)) (n * base + dg (s[k].toNat)) := by
  rw [drop_at h]; rfl

set_option maxHeartbeats 2000000 in
set_option maxRecDepth 100000 in
theorem ValueIn_any (s : ByteArray) (base : Int) (hs : s.size ≤ 9223372036854775807) (w : World) :
    Calls Tryz.prog 54 #[.string s, .int .i64 base] w fun r w' => r = .returned (.int .i64 (valW s base)) ∧ w = w' := by
  by_cases h0 : s.size = 0
  · have hn : s = ⟨#[]⟩ := by
      rcases bytes_cases s with h | ⟨b, rfl⟩ | h
      · exact h
      · exact absurd h0 (by simp [ByteArray.size])
      · omega
    subst hn
    go_enter Tryz.func54, Tryz.ntmps54
    go_wp2
    go_ret
    exact ⟨rfl, rfl⟩
  have hne : s.toList.isEmpty = false := nonempty_list (by omega)
  by_cases hb : 2 ≤ base ∧ base ≤ 16
  · have k1 := fun W => within_any base 2 16 W
    rw [show inr base 2 16 = true by simp [inr]; omega] at k1
    have hv : valW s base = vRun base s.data.toList 0 := by unfold valW; rw [if_neg h0, if_neg (by omega), if_neg (by omega)]
    rw [hv]
    have K1 := Lib.hid k1
    clear k1 hv
    go_enter Tryz.func54, Tryz.ntmps54
    go_wp2_with (go_at_call 42; (with_reducible refine Calls.mono (K1.out _) ?_); rintro r w1 ⟨rfl, rfl⟩)
    go_loopg [5, 17] s.size (fun g s4 s17 wr => ∃ (k : Nat) (n : Int), wr = w ∧ s4 = .int .i64 n ∧ s17 = .int .i64 k ∧ k ≤ s.size ∧ 0 ≤ n ∧ n ≤ 999999999999 ∧ Aside (g = s.size - k) ∧ Aside (vRun base (s.data.toList.drop k) n = vRun base s.data.toList 0))
    case atStart => exact ⟨0, 0, rfl, rfl, rfl, by omega, by omega, by omega, by show _ = _; omega, by show _ = _; simp⟩
    case round =>
      obtain ⟨k, n, rfl, rfl, rfl, hk, hn0, hn1, hg, hv⟩ := hrel
      have hg' := hg.out
      have hv' := hv.out
      clear hg hv
      by_cases hlt : k < s.size
      · have hlt1 : (k : Int) < s.size := by omega
        rw [valRun_step hlt] at hv'
        have p0 : 0 ≤ n * base := Int.mul_nonneg hn0 (by omega)
        have p1 : n * base ≤ 999999999999 * 16 := Int.mul_le_mul hn1 hb.2 (by omega) (by omega)
        generalize eP : n * base = P at *
        have u0 : (0 : Int) ≤ s[k].toNat := by omega
        have u1 : (s[k].toNat : Int) < 256 := by have := s[k].toNat_lt; omega
        have kd := digitValue_any (s[k].toNat) u0 u1
        have d0 := dg_ge (s[k].toNat)
        have d1 := dg_le (s[k].toNat)
        generalize dg (s[k].toNat) = D at *
        have HV := Lib.hid hv'
        clear hv'
        have KD := Lib.hid kd
        clear kd
        go_wp2_with (go_at_call 105; (with_reducible refine Calls.mono (KD.out _) ?_); rintro r w1 ⟨rfl, rfl⟩)
        · rename_i q
          go_ret
          exact ⟨ret_int (by have := HV.out; rw [if_pos (by omega)] at this; exact this), rfl⟩
        · rename_i q1 q2
          go_ret
          exact ⟨ret_int (by have := HV.out; rw [if_neg (by omega), if_pos (by omega)] at this; exact this), rfl⟩
        · rename_i q1 q2
          have hv2 := HV.out
          rw [if_neg (by omega), if_neg (by omega)] at hv2
          go_roundg (s.size - (k + 1))
          case measure => omega
          case rel => exact ⟨k + 1, P + D, rfl, rfl, by go_num, by omega, by omega, by omega, by show _ = _; rfl, hv2⟩
      · have hlt1 : ¬ (k : Int) < s.size := by omega
        rw [drop_end (by omega)] at hv'
        go_wp2
        go_ret
        exact ⟨ret_int hv', rfl⟩
  · have k1 := fun W => within_any base 2 16 W
    rw [show inr base 2 16 = false by simp [inr]; omega] at k1
    have hv : valW s base = -1 := by unfold valW; rw [if_neg h0]; by_cases h : base < 2; · rw [if_pos h]
                                     rw [if_neg h, if_pos (by omega)]
    rw [hv]
    have K1 := Lib.hid k1
    clear k1 hv
    go_enter Tryz.func54, Tryz.ntmps54
    go_wp2_with (go_at_call 42; (with_reducible refine Calls.mono (K1.out _) ?_); rintro r w1 ⟨rfl, rfl⟩)
    all_goals go_ret
    all_goals exact ⟨rfl, rfl⟩

/-- a sign ahead -/
def isSign (c : UInt8) : Bool := decide (0 ≤ Lib.indexByte [45, 43, 32] c)
theorem isSign_eq (c : UInt8) : isSign c = (c == 45 || (c == 43 || c == 32)) :=
  eq_of_beq (all_bytes (fun c => isSign c == (c == 45 || (c == 43 || c == 32))) (by kernel_rfl) c)
def cutD : List UInt8 → List UInt8
  | [] => []
  | c :: r => if isSign c then r else c :: r
def cutN : List UInt8 → Bool
  | [] => false
  | c :: _ => c == 45
theorem cutN_no {c : UInt8} {r : List UInt8} (h : isSign c = false) : cutN (c :: r) = false := by
  rw [isSign_eq] at h
  simp at h
  simp [cutN, h.1]
theorem ext_head (c : UInt8) (r : List UInt8) : (⟨(c :: r).toArray⟩ : ByteArray).extract 0 1 = ⟨#[c]⟩ := by
  apply ByteArray.ext
  rw [ByteArray.data_extract]
  simp
theorem ext_rest (c : UInt8) (r : List UInt8) : (⟨(c :: r).toArray⟩ : ByteArray).extract 1 (r.length + 1) = ⟨r.toArray⟩ := by
  apply ByteArray.ext
  rw [ByteArray.data_extract]
  apply Array.ext'
  rw [Array.toList_extract]
  simp
set_option maxHeartbeats 2000000 in
theorem cutSign_any (l : List UInt8) (hl : l.length ≤ 80) (w : World) : Calls Tryz.prog 49 #[.string ⟨l.toArray⟩] w fun r w' => r = .returned (.tuple #[.string ⟨(cutD l).toArray⟩, .bool (cutN l)]) ∧ Below w.heap.size w w' := by
  have hB := Below.refl w.heap.size w
  cases l with
  | nil =>
    go_enter Tryz.func49, Tryz.ntmps49
    go_wp2
    go_ret2
    exact ⟨rfl, hB⟩
  | cons c r =>
    have hx := ext_head c r
    have hy := ext_rest c r
    have hl2 : (1 : Int) ≤ r.length + 1 := by omega
    have kc : ∀ W, Calls Tryz.prog 96 #[.string ⟨#[45, 43, 32]⟩, .string ⟨#[c]⟩] W fun e w' => e = .returned (.bool (isSign c)) ∧ w' = W := fun W => Tryz.strings_Contains_one ⟨#[45, 43, 32]⟩ c W
    cases hs : isSign c
    · rw [hs] at kc
      have e1 : cutD (c :: r) = c :: r := by simp [cutD, hs]
      rw [e1, cutN_no hs]
      have KC := Lib.hid kc
      clear kc hs e1
      go_enter Tryz.func49, Tryz.ntmps49
      go_wp2_with (go_at_call 96; (with_reducible refine Calls.mono (KC.out _) ?_); rintro r w1 ⟨rfl, rfl⟩)
      go_ret2
      exact ⟨rfl, hB⟩
    · rw [hs] at kc
      have e1 : cutD (c :: r) = r := by simp [cutD, hs]
      have e2 : ((c.toNat : Int) == 45) = cutN (c :: r) := by
        simp only [cutN]
        rw [Bool.eq_iff_iff]
        simp only [beq_iff_eq]
        exact ⟨fun h => UInt8.toNat_inj.1 (by show c.toNat = 45; omega), fun h => by rw [h]; rfl⟩
      rw [e1, ← e2]
      have KC := Lib.hid kc
      clear kc hs e1 e2
      go_enter Tryz.func49, Tryz.ntmps49
      go_wp2_with (go_at_call 96; (with_reducible refine Calls.mono (KC.out _) ?_); rintro r w1 ⟨rfl, rfl⟩)
      refine wp_region_since (by kernel_rfl) (by kernel_rfl) ?_
      repeat (quiet_step (fail))
      refine wpQuiet_nil ?_
      intro w_ hw_
      obtain ⟨⟨w1, hb⟩, hw2⟩ := hw_
      have hw3 : w1 = w_ := hw2.symm
      clear hw2
      subst hw3
      replace hB := hB.trans (hb.mono hB.size)
      have hz := hb.size
      go_wp2
      go_ret2
      exact ⟨rfl, hB⟩
/-- the library's own variable holds some number -/
def HasMax (w : World) : Prop := 0 < w.heap.size ∧ ∃ m, w.cell? ⟨0, 0, none⟩ = some (.int .i64 m)
theorem HasMax.on {w w1 : World} (h : HasMax w) (hb : Below w.heap.size w w1) : HasMax w1 := by
  obtain ⟨hl, m, hm⟩ := h
  exact ⟨Nat.lt_of_lt_of_le hl hb.size, m, (hb.cell (p := ⟨0, 0, none⟩) hl).trans hm⟩
theorem hasMax_of {W : World} (h : W.ShapedOpen Tryz.prog) : HasMax W := by
  obtain ⟨m, hm⟩ := cell_of_shapedOpen_int (P := Tryz.prog) (g := 0) (t := 3) (zero := #[.int .i64 0]) (k := .i64) h (of_decide_eq_true (by kernel_rfl)) (by kernel_rfl) rfl (by kernel_rfl) (by kernel_rfl) Tryz.underlying3
  exact ⟨World.block_lt_of_cell? _ _ hm, m, hm⟩
end Go.Proofs.YtamlnbciejnbdaaGreatDoor
