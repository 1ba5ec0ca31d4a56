import Derived.Test.YtebheehjhnaklaaDoorRR3
import Derived.Test.YtebheehjhnaklaaDoorPS2
import Derived.Lib.OthersKept
import Derived.Lib.MapLaws
import Derived.Lib.DecodeN
namespace Go.Proofs.YtebheehjhnaklaaDoor
open Go Go.RowKit
theorem noAny_skip {l cs : List UInt8} : ∀ (n i : Nat), Lib.NoAny l cs i → (∀ j b, i ≤ j → j < i + n → l[j]? = some b → cs.contains b = false) → Lib.NoAny l cs (i + n) := by
  intro n i h hs j b hj hb
  by_cases e : j < i
  · exact h j b e hb
  · exact hs j b (by omega) hj hb
theorem get_byte (s : ByteArray) (j : Nat) (b : UInt8) (h : s.data.toList[j]? = some b) : s.get! j = b := by
  have h2 : s.data[j]? = some b := by rw [← Array.getElem?_toList]; exact h
  obtain ⟨h3, h4⟩ := Array.getElem?_eq_some_iff.1 h2
  show s.data[j]! = b
  rw [getElem!_pos s.data j h3, h4]
/-- the bytes of a rune beyond ASCII are all beyond ASCII -/
theorem skip_high (s : ByteArray) (i : Nat) (h : i < s.size) (hx : 128 ≤ (s[i]'h).toNat) : i + (Utf8.decode s i).2 ≤ s.size ∧ ∀ j b, i ≤ j → j < i + (Utf8.decode s i).2 → s.data.toList[j]? = some b → 128 ≤ b.toNat := by
  have e := Lib.decode_at s i
  have h0 : (s.get! i).toNat = (s[i]'h).toNat := by rw [get_byte s i (s[i]'h) (Lib.data_getElem? s i h)]
  have hs := Lib.decodeN_shape (s.size - i) (s.get! i).toNat (s.get! (i + 1)).toNat (s.get! (i + 2)).toNat (s.get! (i + 3)).toNat
  rw [← e] at hs
  have hj : ∀ j b, s.data.toList[j]? = some b → (s.get! j).toNat = b.toNat := fun j b hb => by rw [get_byte s j b hb]
  rcases hs with ⟨a, _⟩ | ⟨_, a2, a3, _, a5⟩ | ⟨_, a2, a3, a4, _, _, a5⟩ | ⟨_, a2, a3, a4, a6, _, _, a5⟩ | a5
  · omega
  · rw [a5]
    refine ⟨by show i + 2 ≤ _; omega, fun j b g1 g2 hb => ?_⟩
    have g3 : j = i ∨ j = i + 1 := by have : j < i + 2 := g2; omega
    have := hj j b hb
    rcases g3 with rfl | rfl <;> omega
  · rw [a5]
    refine ⟨by show i + 3 ≤ _; omega, fun j b g1 g2 hb => ?_⟩
    have g3 : j = i ∨ j = i + 1 ∨ j = i + 2 := by have : j < i + 3 := g2; omega
    have := hj j b hb
    rcases g3 with rfl | rfl | rfl <;> omega
  · rw [a5]
    refine ⟨by show i + 4 ≤ _; omega, fun j b g1 g2 hb => ?_⟩
    have g3 : j = i ∨ j = i + 1 ∨ j = i + 2 ∨ j = i + 3 := by have : j < i + 4 := g2; omega
    have := hj j b hb
    rcases g3 with rfl | rfl | rfl | rfl <;> omega
  · rw [a5]
    refine ⟨by show i + 1 ≤ _; omega, fun j b g1 g2 hb => ?_⟩
    have g3 : j = i := by have : j < i + 1 := g2; omega
    have := hj j b hb
    subst g3
    omega
theorem high_no {b : UInt8} (h : 128 ≤ b.toNat) : ([101, 69] : List UInt8).contains b = false := by
  cases hc : ([101, 69] : List UInt8).contains b
  · rfl
  · rcases (by simpa using hc : b = 101 ∨ b = 69) with rfl | rfl
    · exact absurd h (by decide)
    · exact absurd h (by decide)
theorem shouldUse_any (n : Int) (w : World) : Calls Tryd.prog 37 #[.int .i64 n] w fun r w' => r = .returned (.bool (decide (8 < n))) ∧ w = w' := by
  go_enter Tryd.func37, Tryd.ntmps37
  go_wp2
  all_goals (go_ret; exact ⟨by simp [*], rfl⟩)
set_option maxHeartbeats 4000000 in
set_option maxRecDepth 1000000 in
theorem IndexAny_short (s : ByteArray) (h8 : s.size ≤ 8) (w : World) : Calls Tryd.prog 20 #[.string s, .string ⟨#[101, 69]⟩] w fun r w' => r = .returned (.int .i64 (Lib.indexAny s.data.toList [101, 69])) ∧ Below w.heap.size w w' := by
  have k1 := fun W => shouldUse_any s.size W
  rw [decide_eq_false (show ¬ ((8 : Int) < s.size) by omega)] at k1
  have k2 := fun (r : Int) (h : 0 ≤ r) W => IndexRune_any ⟨#[101, 69]⟩ (by decide) r h W
  rw [show (⟨#[101, 69]⟩ : ByteArray).data.toList = [101, 69] from rfl] at k2
  have K1 := Lib.hid k1; have K2 := Lib.hid k2
  clear k1 k2
  go_enter Tryd.func20, Tryd.ntmps20
  go_wp2_with (go_at_call 37; (with_reducible refine Calls.mono (K1.out _) ?_); rintro r w1 ⟨rfl, rfl⟩)
  go_loopg [9, 10] s.size (fun g _ _ wx => ∃ i : Nat, i + g = s.size ∧ wx.heap[w.heap.size]? = some (.stringIter s i) ∧ Below w.heap.size w wx ∧ Aside (Lib.NoAny s.data.toList [101, 69] i))
  case atStart => exact ⟨0, by omega, World.iter_heap w s 0, (Below.refl _ _).alloc (Nat.le_refl _) _, Lib.NoAny.zero _ _⟩
  case round =>
    obtain ⟨i, hig, hit, hB, hno⟩ := hrel
    by_cases hi : i < s.size
    · have hnx : ∀ ty, (Instr.next (.pointer (some ⟨w.heap.size, 0, none⟩)) true ty).run Tryd.prog wr = _ := fun ty => Lib.run_next_any_at wr w.heap.size s i ty hit hi
      have hit2 := Lib.iterAt_heap wr w.heap.size s i (i + (Utf8.decode s i).2) hit
      have hB2 := Lib.below_iterAt hB (k := w.heap.size) (Nat.le_refl _) s (i + (Utf8.decode s i).2)
      by_cases hx : (s[i]'hi).toNat < 128
      · have hd := decode_ascii s i hi hx
        rw [hd] at hnx hit2 hB2
        have hxl : s.data.toList[i]? = some (s[i]'hi) := Lib.data_getElem? s i hi
        generalize s[i]'hi = x at *
        obtain ⟨W1, hW1⟩ : ∃ W1, W1 = wr.iterAt w.heap.size s (i + 1) := ⟨_, rfl⟩
        simp only at hnx hit2 hB2
        rw [← hW1] at hnx hit2 hB2
        have hsz : w.heap.size < W1.heap.size := by
          have := (Array.getElem?_eq_some_iff.1 hit2).1
          exact this
        have k3 := fun W => K2.out (x.toNat : Int) (by omega) W
        have hv : ixI [101, 69] (x.toNat : Int) = Lib.indexByte [101, 69] x := by
          unfold ixI
          rw [if_pos ⟨by omega, by omega⟩]
          congr 1
          simp
        rw [hv] at k3
        have hcon := Lib.contains_iff_indexByte [101, 69] x
        generalize Lib.indexByte [101, 69] x = v at *
        have K3 := Lib.hid k3
        have HX := Lib.hid hxl
        clear k3 hv hd hW1 hit hB hxl
        cases hin : ([101, 69] : List UInt8).contains x
        · rw [hin] at hcon
          have hlt : ¬ ((0 : Int) ≤ v) := of_decide_eq_false hcon.symm
          have HN := Lib.hid (hno.out.succ HX.out hin)
          have IT := Lib.hid hit2
          clear hcon hin hno hit2
          go_wp2_with (go_at_call 36; (with_reducible refine Calls.mono (K3.out _) ?_); rintro r w1 ⟨rfl, hb⟩; have IT2 := Lib.hid ((hb.block _ hsz).trans IT.out); replace hB2 := hB2.trans (hb.mono hB2.size))
          go_roundg (s.size - (i + 1))
          case measure => omega
          case rel => exact ⟨i + 1, by omega, IT2.out, hB2, HN.out⟩
        · rw [hin] at hcon
          have hge : (0 : Int) ≤ v := of_decide_eq_true hcon.symm
          have HA := Lib.hid (Lib.indexAny_hit hno.out HX.out hin)
          clear hcon hin hno hit2
          go_wp2_with (go_at_call 36; (with_reducible refine Calls.mono (K3.out _) ?_); rintro r w1 ⟨rfl, hb⟩; replace hB2 := hB2.trans (hb.mono hB2.size))
          go_ret
          exact ⟨by rw [HA.out]; rfl, hB2⟩
      · obtain ⟨hd1, hd2⟩ := decode_high s i hi (by omega)
        obtain ⟨hs1, hs2⟩ := skip_high s i hi (by omega)
        have hN := noAny_skip (Utf8.decode s i).2 i hno.out (fun j b g1 g2 hb => high_no (hs2 j b g1 g2 hb))
        obtain ⟨W1, hW1⟩ : ∃ W1, W1 = wr.iterAt w.heap.size s (i + (Utf8.decode s i).2) := ⟨_, rfl⟩
        rw [← hW1] at hnx hit2 hB2
        have hsz : w.heap.size < W1.heap.size := by
          have := (Array.getElem?_eq_some_iff.1 hit2).1
          exact this
        clear hW1 hs2
        generalize (Utf8.decode s i).1 = R at *
        generalize (Utf8.decode s i).2 = n at *
        have k3 := fun W => K2.out (R : Int) (by omega) W
        rw [show ixI [101, 69] (R : Int) = -1 by unfold ixI; rw [if_neg (by omega)]] at k3
        have K3 := Lib.hid k3; have HN := Lib.hid hN; have IT := Lib.hid hit2
        clear k3 hN hit2 hit hB hno
        go_wp2_with (go_at_call 36; (with_reducible refine Calls.mono (K3.out _) ?_); rintro r w1 ⟨rfl, hb⟩; have IT2 := Lib.hid ((hb.block _ hsz).trans IT.out); replace hB2 := hB2.trans (hb.mono hB2.size))
        go_roundg (s.size - (i + n))
        case measure => omega
        case rel => exact ⟨i + n, by omega, IT2.out, hB2, HN.out⟩
    · obtain rfl : i = s.size := by have := hig; omega
      have hnx : ∀ ty, (Instr.next (.pointer (some ⟨w.heap.size, 0, none⟩)) true ty).run Tryd.prog wr = _ := fun ty => Lib.run_next_end_at wr w.heap.size s s.size ty hit (by omega)
      have HA := Lib.hid (Lib.indexAny_none (by rw [← Lib.size_eq]; exact hno.out))
      clear hit hno
      go_wp2
      go_ret
      exact ⟨by rw [HA.out]; rfl, hB⟩
set_option maxRecDepth 1000000 in
theorem ixK_any {T : List UInt8} (hl : T.length ≤ 80) : IxK T := by
  intro W
  by_cases h8 : T.length ≤ 8
  · exact IndexAny_short ⟨T.toArray⟩ h8 W
  · refine (Tryd.strings_IndexAny_long (zero_of_info (show (Tryd.prog.info? 48).map (fun i => (i.zero, i.size)) = some (some (.agg (Array.replicate 256 (.bool false))), 256) by kernel_rfl)).1 ⟨T.toArray⟩ ⟨#[101, 69]⟩ W (by decide) (by show 8 < T.length; omega) (by show T.length < _; omega) (by decide) (by intro j b hb; match j, hb with | 0, hb => (simp at hb; subst hb; decide) | 1, hb => (simp at hb; subst hb; decide) | j + 2, hb => simp at hb)).mono ?_
    rintro r w1 ⟨rfl, rfl⟩
    exact ⟨rfl, ((Below.refl _ _).alloc (Nat.le_refl _) _).alloc (by simp) _⟩
end Go.Proofs.YtebheehjhnaklaaDoor
