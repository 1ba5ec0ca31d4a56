import Derived.Test.YtebheehjhnaklaaGreatDoorW0
import Derived.Test.YtebheehjhnaklaaGreatDoorU1
import Derived.Laws.Runes
import Derived.Laws.RangeString
import Derived.Laws.RangeAny
import Derived.Laws.Strings3
import Derived.Deep.LoopGhost
import Derived.Lib.IndexBytes
import Derived.Handy
import Derived.WalkMore
import Derived.Test.YtebheehjhnaklaaGreatDoorRR3
import Derived.Test.YtebheehjhnaklaaGreatDoorRR8
import Derived.Lib.OthersKept
import Derived.Lib.MapLaws
import Derived.Lib.DecodeN
namespace Go.Proofs.YtebheehjhnaklaaGreatDoor
open Go.RowKit
/-- the mark at a place counted from 1 -/
def mk (l : List UInt8) (k : Int) : List UInt8 := if k = 0 then [] else (l.drop (k.toNat - 1)).take 1
/-- a number of at most two digits -/
def dec2 (n : Nat) : List UInt8 := if n < 10 then [UInt8.ofNat (48 + n)] else [UInt8.ofNat (48 + n / 10), UInt8.ofNat (48 + n % 10)]
end Go.Proofs.YtebheehjhnaklaaGreatDoor
namespace Go.Proofs.YtebheehjhnaklaaGreatDoor
open Go.RowKit
end Go.Proofs.YtebheehjhnaklaaGreatDoor
namespace Go.Proofs.YtebheehjhnaklaaGreatDoor
open Go.RowKit
end Go.Proofs.YtebheehjhnaklaaGreatDoor
namespace Go.Proofs.YtebheehjhnaklaaGreatDoor
open Go.RowKit
def al4 : List UInt8 := [60, 62, 94, 61]
def si3 : List UInt8 := [45, 43, 32]
def gr2 : List UInt8 := [44, 95]
def t8 (pr : Int) (t : List UInt8) : List UInt8 := (if pr = -1 then [] else 46 :: dec2 pr.toNat) ++ t
def t7 (gr pr : Int) (t : List UInt8) : List UInt8 := mk gr2 gr ++ t8 pr t
def t6 (wi gr pr : Int) (t : List UInt8) : List UInt8 := (if 0 < wi then dec2 wi.toNat else []) ++ t7 gr pr t
def t5 (ze : Bool) (wi gr pr : Int) (t : List UInt8) : List UInt8 := (if ze then [48] else []) ++ t6 wi gr pr t
def t4 (alt ze : Bool) (wi gr pr : Int) (t : List UInt8) : List UInt8 := (if alt then [35] else []) ++ t5 ze wi gr pr t
def t3 (si : Int) (alt ze : Bool) (wi gr pr : Int) (t : List UInt8) : List UInt8 := mk si3 si ++ t4 alt ze wi gr pr t
def t2 (al si : Int) (alt ze : Bool) (wi gr pr : Int) (t : List UInt8) : List UInt8 := mk al4 al ++ t3 si alt ze wi gr pr t
end Go.Proofs.YtebheehjhnaklaaGreatDoor
namespace Go.Proofs.YtebheehjhnaklaaGreatDoor
open Go Go.RowKit
/-- the place of a rune among marks -/
def ixI (ms : List UInt8) (r : Int) : Int := if 0 ≤ r ∧ r < 128 then Lib.indexByte ms r.toNat.toUInt8 else -1
set_option maxHeartbeats 2000000 in
set_option maxRecDepth 1000000 in
theorem IndexRune_err (m : ByteArray) (hm : ∀ b ∈ m.data.toList, b.toNat < 128) (w : World) :
    Calls Tryz.prog 173 #[.string m, .int .i32 65533] w fun e w' => e = .returned (.int .i64 (-1)) ∧ Below w.heap.size w w' := by
  have HA := Lib.hid hm
  clear hm
  go_enter Tryz.func173, Tryz.ntmps173
  go_wp2
  go_loopg [5, 6] m.size (fun g _ _ wx => ∃ i : Nat, i + g = m.size ∧ wx = w.iter m i)
  case atStart => exact ⟨0, by omega, rfl⟩
  case round =>
    obtain ⟨i, hig, rfl⟩ := hrel
    cases gk with
    | zero =>
      obtain rfl : i = m.size := by omega
      have hnx := run_next_end (P := Tryz.prog) w m m.size
      go_wp2
      go_ret
      exact ⟨rfl, (Below.refl _ _).alloc (Nat.le_refl _) _⟩
    | succ g =>
      have hi : i < m.size := by omega
      obtain ⟨x, hx⟩ : ∃ x : UInt8, m[i]'hi = x := ⟨_, rfl⟩
      have hxl : m.data.toList[i]? = some x := by rw [← hx]; exact Lib.data_getElem? m i hi
      have hx128 : x.toNat < 128 := HA.out x (List.mem_of_getElem? hxl)
      have hnx := fun ty => run_next_ascii (P := Tryz.prog) w m i ty hi (by rw [hx]; exact hx128)
      rw [hx] at hnx
      clear hxl hx
      have hne : ((x.toNat : Int) == 65533) = false := by simp; omega
      go_wp2
      go_roundg g
      case measure => omega
      case rel => exact ⟨i + 1, by omega, rfl⟩
set_option maxHeartbeats 2000000 in
set_option maxRecDepth 1000000 in
theorem IndexRune_bad (m : ByteArray) (r : Int) (h0 : 128 ≤ r) (h1 : ¬ r = 65533) (hv : Utf8.valid r = false) (w : World) :
    Calls Tryz.prog 173 #[.string m, .int .i32 r] w fun e w' => e = .returned (.int .i64 (-1)) ∧ Below w.heap.size w w' := by
  have k1 : ∀ W, Calls Tryz.prog 227 #[.int .i32 r] W fun e w' => e = .returned (.bool false) ∧ W = w' := fun W => by
    refine (Tryz.utf8_ValidRune r W).mono ?_
    rintro e w1 ⟨rfl, rfl⟩
    rw [show Lib.validRune r = Utf8.valid r from (Go.validRune_eq r).symm, hv]
    exact ⟨rfl, rfl⟩
  have K1 := Lib.hid k1
  clear k1 hv
  have i1 : ¬ r < 128 := by omega
  have i2 : 0 ≤ r := by omega
  have i3 : (r == 65533) = false := by simpa using h1
  clear h1
  go_enter Tryz.func173, Tryz.ntmps173
  go_wp2_with (go_at_call 227; (with_reducible refine Calls.mono (K1.out _) ?_); rintro e w1 ⟨rfl, rfl⟩)
  go_ret
  exact ⟨rfl, Below.refl _ _⟩
theorem byte_at {s : ByteArray} {k : Nat} (h : k < s.size) : s[k] ∈ s.data.toList := List.mem_of_getElem? (Lib.data_getElem? s k h)
theorem idx_high {l : List UInt8} (hl : ∀ b ∈ l, b.toNat < 128) {c : UInt8} (hc : 128 ≤ c.toNat) : Lib.indexByte l c = -1 := by
  induction l with
  | nil => rfl
  | cons a r ih =>
    have ha := hl a (by simp)
    have hn : ¬ a = c := fun e => by rw [e] at ha; omega
    rw [Lib.indexByte, ih (fun b hb => hl b (by simp [hb]))]
    simp [hn]
set_option maxHeartbeats 4000000 in
set_option maxRecDepth 1000000 in
theorem IndexRune_far (m E : ByteArray) (L : Nat) (r : Int) (c : UInt8) (h0 : 128 ≤ r) (h1 : ¬ r = 65533) (hv : Utf8.valid r = true) (hm : ∀ b ∈ m.data.toList, b.toNat < 128) (hE : Utf8.encode r = E) (hL : E.size = L + 1) (hL1 : 1 ≤ L) (hL4 : L ≤ 3) (hcE : ∀ h : L < E.size, E[L]'h = c) (hc : 128 ≤ c.toNat) (w : World) :
    Calls Tryz.prog 173 #[.string m, .int .i32 r] w fun e w' => e = .returned (.int .i64 (-1)) ∧ Below w.heap.size w w' := by
  have k1 : ∀ W, Calls Tryz.prog 227 #[.int .i32 r] W fun e w' => e = .returned (.bool true) ∧ W = w' := fun W => by
    refine (Tryz.utf8_ValidRune r W).mono ?_
    rintro e w1 ⟨rfl, rfl⟩
    rw [show Lib.validRune r = Utf8.valid r from (Go.validRune_eq r).symm, hv]
    exact ⟨rfl, rfl⟩
  have k3 : ∀ W, Calls Tryz.prog 226 #[.string (m.extract (L + 1) m.size), .int .u8 c.toNat] W fun e w' => e = .returned (.int .i64 (-1)) ∧ Below W.heap.size W w' := fun W => by
    refine (Tryz.strings_IndexByte _ _ W).mono ?_
    rintro e w1 ⟨rfl, rfl⟩
    refine ⟨?_, Below.refl _ _⟩
    rw [show (((c.toNat : Nat) : Int)).toNat.toUInt8 = c by simp, idx_high (fun b hb => hm b (mem_extract hb)) hc]
  have e1 : (E.size : Int) - 1 = L := by omega
  have i1 : ¬ r < 128 := by omega
  have i2 : 0 ≤ r := by omega
  have i3 : (r == 65533) = false := by simpa using h1
  have i5 : L < E.size := by omega
  have i6 : (L : Int) < E.size := by omega
  have K1 := Lib.hid k1; have K3 := Lib.hid k3
  by_cases hs : L < m.size
  · obtain ⟨x, hx⟩ : ∃ x : UInt8, m[L]'hs = x := ⟨_, rfl⟩
    have hx1 : x.toNat < 128 := hm x (by rw [← hx]; exact byte_at hs)
    have hne : ((x.toNat : Int) == (c.toNat : Int)) = false := by simp; omega
    have hne2 : ((x.toNat : Int) != (c.toNat : Int)) = true := by simp; omega
    clear k1 k3 hm hv hL hc hx1
    have i4 : (L : Int) < m.size := by omega
    have i7 : (L : Int) + 1 ≤ m.size := by omega
    clear h1
    go_enter Tryz.func173, Tryz.ntmps173
    go_wp2_with (go_at_call 227; (with_reducible refine Calls.mono (K1.out _) ?_); rintro e w1 ⟨rfl, rfl⟩)
    go_step3
    go_wp2
    go_loopg [9, 10] 0 (fun _ s9 s10 wr => w = wr ∧ s9 = .int .i64 L ∧ s10 = .int .i64 0)
    case atStart => exact ⟨rfl, rfl, rfl⟩
    case round =>
      obtain ⟨rfl, rfl, rfl⟩ := hrel
      go_wp2
      go_step3
      go_wp2
      have hB := Below.refl w.heap.size w
      refine wp_region_since (by kernel_rfl) (by kernel_rfl) ?_
      repeat (quiet_step (fail))
      refine wpQuiet_nil ?_
      intro w_ hw_
      obtain ⟨⟨w1, hb⟩, hw2⟩ := hw_
      have hw3 : w1 = w_ := hw2.symm
      clear hw2
      subst hw3
      replace hB := hB.trans (hb.mono hB.size)
      have hz := hb.size
      go_wp2
      have v1 : IntKind.i64.wrap ((L : Int) + 1) = (L : Int) + 1 := wrap_small _ (by omega) (by omega)
      have v2 : ((L : Int) + 1).toNat = L + 1 := by omega
      have v3 : (0 : Int) ≤ (L : Int) + 1 := by omega
      refine wp_region_since (by kernel_rfl) (by kernel_rfl) ?_
      repeat (quiet_step ((go_at_call 226; with_reducible exact Calls.since_of (K3.out _))))
      refine wpQuiet_nil ?_
      intro w_ hw_
      obtain ⟨⟨w1, hb⟩, hw2⟩ := hw_
      have hw3 : w1 = w_ := hw2.symm
      clear hw2
      subst hw3
      replace hB := hB.trans (hb.mono hB.size)
      have hz := hb.size
      go_wp2
      rw [Exit.noGoto_ret]
      go_wp2
      try rw [Exit.noGoto_ret]
      go_ret
      exact ⟨rfl, hB⟩
  · clear k1 k3 hm hv hL hc
    have i4 : ¬ (L : Int) < m.size := by omega
    clear h1
    go_enter Tryz.func173, Tryz.ntmps173
    go_wp2_with (go_at_call 227; (with_reducible refine Calls.mono (K1.out _) ?_); rintro e w1 ⟨rfl, rfl⟩)
    go_step3
    go_wp2
    go_loopg [9, 10] 0 (fun _ s9 s10 wr => w = wr ∧ s9 = .int .i64 L ∧ s10 = .int .i64 0)
    case atStart => exact ⟨rfl, rfl, rfl⟩
    case round =>
      obtain ⟨rfl, rfl, rfl⟩ := hrel
      go_wp2
      rw [Exit.noGoto_ret]
      go_ret
      exact ⟨rfl, Below.refl _ _⟩
theorem IndexRune_any (m : ByteArray) (hm : ∀ b ∈ m.data.toList, b.toNat < 128) (r : Int) (h0 : 0 ≤ r) (w : World) :
    Calls Tryz.prog 173 #[.string m, .int .i32 r] w fun e w' => e = .returned (.int .i64 (ixI m.data.toList r)) ∧ Below w.heap.size w w' := by
  by_cases h1 : r < 128
  · refine (Tryz.strings_IndexRune_ascii m r w h0 h1).mono ?_
    rintro e w1 ⟨rfl, rfl⟩
    refine ⟨?_, Below.refl _ _⟩
    unfold ixI
    rw [if_pos ⟨h0, h1⟩]
  · rw [show ixI m.data.toList r = -1 by unfold ixI; rw [if_neg (by omega)]]
    by_cases h2 : r = 65533
    · subst h2
      exact IndexRune_err m hm w
    · cases hv : Utf8.valid r
      · exact IndexRune_bad m r (by omega) h2 hv w
      · obtain ⟨f1, f2, f3⟩ := encode_facts r hv (by omega)
        obtain ⟨L, hL⟩ : ∃ L, (Utf8.encode r).size = L + 1 := ⟨(Utf8.encode r).size - 1, by omega⟩
        have hlt : L < (Utf8.encode r).size := by omega
        refine IndexRune_far m (Utf8.encode r) L r ((Utf8.encode r)[L]'hlt) (by omega) h2 hv hm rfl hL (by omega) (by omega) (fun _ => rfl) ?_ w
        have := f3 (by omega)
        simpa [hL] using this
end Go.Proofs.YtebheehjhnaklaaGreatDoor
namespace Go.Proofs.YtebheehjhnaklaaGreatDoor
open Go Go.RowKit
theorem noAny_skip {l cs : List UInt8} : ∀ (n i : Nat), Lib.NoAny l cs i → (∀ j b, i ≤ j → j < i + n → l[j]? = some b → cs.contains b = false) → Lib.NoAny l cs (i + n) := by
  intro n i h hs j b hj hb
  by_cases e : j < i
  · exact h j b e hb
  · exact hs j b (by omega) hj hb
theorem get_byte (s : ByteArray) (j : Nat) (b : UInt8) (h : s.data.toList[j]? = some b) : s.get! j = b := by
  have h2 : s.data[j]? = some b := by rw [← Array.getElem?_toList]; exact h
  obtain ⟨h3, h4⟩ := Array.getElem?_eq_some_iff.1 h2
  show s.data[j]! = b
  rw [getElem!_pos s.data j h3, h4]
/-- the bytes of a rune beyond ASCII are all beyond ASCII -/
theorem skip_high (s : ByteArray) (i : Nat) (h : i < s.size) (hx : 128 ≤ (s[i]'h).toNat) : i + (Utf8.decode s i).2 ≤ s.size ∧ ∀ j b, i ≤ j → j < i + (Utf8.decode s i).2 → s.data.toList[j]? = some b → 128 ≤ b.toNat := by
  have e := Lib.decode_at s i
  have h0 : (s.get! i).toNat = (s[i]'h).toNat := by rw [get_byte s i (s[i]'h) (Lib.data_getElem? s i h)]
  have hs := Lib.decodeN_shape (s.size - i) (s.get! i).toNat (s.get! (i + 1)).toNat (s.get! (i + 2)).toNat (s.get! (i + 3)).toNat
  rw [← e] at hs
  have hj : ∀ j b, s.data.toList[j]? = some b → (s.get! j).toNat = b.toNat := fun j b hb => by rw [get_byte s j b hb]
  rcases hs with ⟨a, _⟩ | ⟨_, a2, a3, _, a5⟩ | ⟨_, a2, a3, a4, _, _, a5⟩ | ⟨_, a2, a3, a4, a6, _, _, a5⟩ | a5
  · omega
  · rw [a5]
    refine ⟨by show i + 2 ≤ _; omega, fun j b g1 g2 hb => ?_⟩
    have g3 : j = i ∨ j = i + 1 := by have : j < i + 2 := g2; omega
    have := hj j b hb
    rcases g3 with rfl | rfl <;> omega
  · rw [a5]
    refine ⟨by show i + 3 ≤ _; omega, fun j b g1 g2 hb => ?_⟩
    have g3 : j = i ∨ j = i + 1 ∨ j = i + 2 := by have : j < i + 3 := g2; omega
    have := hj j b hb
    rcases g3 with rfl | rfl | rfl <;> omega
  · rw [a5]
    refine ⟨by show i + 4 ≤ _; omega, fun j b g1 g2 hb => ?_⟩
    have g3 : j = i ∨ j = i + 1 ∨ j = i + 2 ∨ j = i + 3 := by have : j < i + 4 := g2; omega
    have := hj j b hb
    rcases g3 with rfl | rfl | rfl | rfl <;> omega
  · rw [a5]
    refine ⟨by show i + 1 ≤ _; omega, fun j b g1 g2 hb => ?_⟩
    have g3 : j = i := by have : j < i + 1 := g2; omega
    have := hj j b hb
    subst g3
    omega
theorem high_no {b : UInt8} (h : 128 ≤ b.toNat) : ([101, 69] : List UInt8).contains b = false := by
  cases hc : ([101, 69] : List UInt8).contains b
  · rfl
  · rcases (by simpa using hc : b = 101 ∨ b = 69) with rfl | rfl
    · exact absurd h (by decide)
    · exact absurd h (by decide)
theorem shouldUse_any (n : Int) (w : World) : Calls Tryz.prog 174 #[.int .i64 n] w fun r w' => r = .returned (.bool (decide (8 < n))) ∧ w = w' := by
  go_enter Tryz.func174, Tryz.ntmps174
  go_wp2
  all_goals (go_ret; exact ⟨by simp [*], rfl⟩)
set_option maxHeartbeats 4000000 in
set_option maxRecDepth 1000000 in
theorem IndexAny_short (s : ByteArray) (h8 : s.size ≤ 8) (w : World) : Calls Tryz.prog 102 #[.string s, .string ⟨#[101, 69]⟩] w fun r w' => r = .returned (.int .i64 (Lib.indexAny s.data.toList [101, 69])) ∧ Below w.heap.size w w' := by
  have k1 := fun W => shouldUse_any s.size W
  rw [decide_eq_false (show ¬ ((8 : Int) < s.size) by omega)] at k1
  have k2 := fun (r : Int) (h : 0 ≤ r) W => IndexRune_any ⟨#[101, 69]⟩ (by decide) r h W
  rw [show (⟨#[101, 69]⟩ : ByteArray).data.toList = [101, 69] from rfl] at k2
  have K1 := Lib.hid k1; have K2 := Lib.hid k2
  clear k1 k2
  go_enter Tryz.func102, Tryz.ntmps102
  go_wp2_with (go_at_call 174; (with_reducible refine Calls.mono (K1.out _) ?_); rintro r w1 ⟨rfl, rfl⟩)
  go_loopg [9, 10] s.size (fun g _ _ wx => ∃ i : Nat, i + g = s.size ∧ wx.heap[w.heap.size]? = some (.stringIter s i) ∧ Below w.heap.size w wx ∧ Aside (Lib.NoAny s.data.toList [101, 69] i))
  case atStart => exact ⟨0, by omega, World.iter_heap w s 0, (Below.refl _ _).alloc (Nat.le_refl _) _, Lib.NoAny.zero _ _⟩
  case round =>
    obtain ⟨i, hig, hit, hB, hno⟩ := hrel
    by_cases hi : i < s.size
    · have hnx : ∀ ty, (Instr.next (.pointer (some ⟨w.heap.size, 0, none⟩)) true ty).run Tryz.prog wr = _ := fun ty => Lib.run_next_any_at wr w.heap.size s i ty hit hi
      have hit2 := Lib.iterAt_heap wr w.heap.size s i (i + (Utf8.decode s i).2) hit
      have hB2 := Lib.below_iterAt hB (k := w.heap.size) (Nat.le_refl _) s (i + (Utf8.decode s i).2)
      by_cases hx : (s[i]'hi).toNat < 128
      · have hd := decode_ascii s i hi hx
        rw [hd] at hnx hit2 hB2
        have hxl : s.data.toList[i]? = some (s[i]'hi) := Lib.data_getElem? s i hi
        generalize s[i]'hi = x at *
        obtain ⟨W1, hW1⟩ : ∃ W1, W1 = wr.iterAt w.heap.size s (i + 1) := ⟨_, rfl⟩
        simp only at hnx hit2 hB2
        rw [← hW1] at hnx hit2 hB2
        have hsz : w.heap.size < W1.heap.size := by
          have := (Array.getElem?_eq_some_iff.1 hit2).1
          exact this
        have k3 := fun W => K2.out (x.toNat : Int) (by omega) W
        have hv : ixI [101, 69] (x.toNat : Int) = Lib.indexByte [101, 69] x := by
          unfold ixI
          rw [if_pos ⟨by omega, by omega⟩]
          congr 1
          simp
        rw [hv] at k3
        have hcon := Lib.contains_iff_indexByte [101, 69] x
        generalize Lib.indexByte [101, 69] x = v at *
        have K3 := Lib.hid k3
        have HX := Lib.hid hxl
        clear k3 hv hd hW1 hit hB hxl
        cases hin : ([101, 69] : List UInt8).contains x
        · rw [hin] at hcon
          have hlt : ¬ ((0 : Int) ≤ v) := of_decide_eq_false hcon.symm
          have HN := Lib.hid (hno.out.succ HX.out hin)
          have IT := Lib.hid hit2
          clear hcon hin hno hit2
          go_wp2_with (go_at_call 173; (with_reducible refine Calls.mono (K3.out _) ?_); rintro r w1 ⟨rfl, hb⟩; have IT2 := Lib.hid ((hb.block _ hsz).trans IT.out); replace hB2 := hB2.trans (hb.mono hB2.size))
          go_roundg (s.size - (i + 1))
          case measure => omega
          case rel => exact ⟨i + 1, by omega, IT2.out, hB2, HN.out⟩
        · rw [hin] at hcon
          have hge : (0 : Int) ≤ v := of_decide_eq_true hcon.symm
          have HA := Lib.hid (Lib.indexAny_hit hno.out HX.out hin)
          clear hcon hin hno hit2
          go_wp2_with (go_at_call 173; (with_reducible refine Calls.mono (K3.out _) ?_); rintro r w1 ⟨rfl, hb⟩; replace hB2 := hB2.trans (hb.mono hB2.size))
          go_ret
          exact ⟨by rw [HA.out]; rfl, hB2⟩
      · obtain ⟨hd1, hd2⟩ := decode_high s i hi (by omega)
        obtain ⟨hs1, hs2⟩ := skip_high s i hi (by omega)
        have hN := noAny_skip (Utf8.decode s i).2 i hno.out (fun j b g1 g2 hb => high_no (hs2 j b g1 g2 hb))
        obtain ⟨W1, hW1⟩ : ∃ W1, W1 = wr.iterAt w.heap.size s (i + (Utf8.decode s i).2) := ⟨_, rfl⟩
        rw [← hW1] at hnx hit2 hB2
        have hsz : w.heap.size < W1.heap.size := by
          have := (Array.getElem?_eq_some_iff.1 hit2).1
          exact this
        clear hW1 hs2
        generalize (Utf8.decode s i).1 = R at *
        generalize (Utf8.decode s i).2 = n at *
        have k3 := fun W => K2.out (R : Int) (by omega) W
        rw [show ixI [101, 69] (R : Int) = -1 by unfold ixI; rw [if_neg (by omega)]] at k3
        have K3 := Lib.hid k3; have HN := Lib.hid hN; have IT := Lib.hid hit2
        clear k3 hN hit2 hit hB hno
        go_wp2_with (go_at_call 173; (with_reducible refine Calls.mono (K3.out _) ?_); rintro r w1 ⟨rfl, hb⟩; have IT2 := Lib.hid ((hb.block _ hsz).trans IT.out); replace hB2 := hB2.trans (hb.mono hB2.size))
        go_roundg (s.size - (i + n))
        case measure => omega
        case rel => exact ⟨i + n, by omega, IT2.out, hB2, HN.out⟩
    · obtain rfl : i = s.size := by have := hig; omega
      have hnx : ∀ ty, (Instr.next (.pointer (some ⟨w.heap.size, 0, none⟩)) true ty).run Tryz.prog wr = _ := fun ty => Lib.run_next_end_at wr w.heap.size s s.size ty hit (by omega)
      have HA := Lib.hid (Lib.indexAny_none (by rw [← Lib.size_eq]; exact hno.out))
      clear hit hno
      go_wp2
      go_ret
      exact ⟨by rw [HA.out]; rfl, hB⟩
set_option maxRecDepth 1000000 in
theorem ixK_any {T : List UInt8} (hl : T.length ≤ 80) : IxK T := by
  intro W
  by_cases h8 : T.length ≤ 8
  · exact IndexAny_short ⟨T.toArray⟩ h8 W
  · refine (Tryz.strings_IndexAny_long (zero_of_info (show (Tryz.prog.info? 116).map (fun i => (i.zero, i.size)) = some (some (.agg (Array.replicate 256 (.bool false))), 256) by kernel_rfl)).1 ⟨T.toArray⟩ ⟨#[101, 69]⟩ W (by decide) (by show 8 < T.length; omega) (by show T.length < _; omega) (by decide) (by intro j b hb; match j, hb with | 0, hb => (simp at hb; subst hb; decide) | 1, hb => (simp at hb; subst hb; decide) | j + 2, hb => simp at hb)).mono ?_
    rintro r w1 ⟨rfl, rfl⟩
    exact ⟨rfl, ((Below.refl _ _).alloc (Nat.le_refl _) _).alloc (by simp) _⟩
end Go.Proofs.YtebheehjhnaklaaGreatDoor
namespace Go.Proofs.YtebheehjhnaklaaGreatDoor
open Go Go.RowKit
/-- what is read of any text -/
def rrX (T : List UInt8) : Fd.D × Bool := if T.length ≤ 80 then rrL T else (Fd.D.z, false)
set_option maxRecDepth 100000 in
set_option maxHeartbeats 4000000 in
theorem ReadRealS_any (T : List UInt8) (w : World) :
    Calls Tryz.prog 21 #[.string ⟨T.toArray⟩] w fun r w' => r = .returned (.tuple #[.agg #[.bool (rrX T).1.n, .int .i64 (rrX T).1.c, .int .i64 (rrX T).1.e], .bool (rrX T).2]) ∧ Below w.heap.size w w' := by
  have zb := C3.new w (.bool false) (.int .i64 0) (.int .i64 0) 24
  have hB0 : Below w.heap.size w (w.alloc (.cells #[.bool false, .int .i64 0, .int .i64 0] 24)) := Below.alloc (Below.refl _ _) (Nat.le_refl _) _
  have zz := zb
  obtain ⟨y0, y1, y2, y3, y4, y5, y6⟩ := zz
  have hsz : (⟨T.toArray⟩ : ByteArray).size = T.length := rfl
  by_cases hl : T.length ≤ 80
  · rw [show rrX T = rrL T from if_pos hl]
    have k1 := fun W => readRealS_any T hl W
    unfold rV at k1
    generalize rrL T = F at *
    have i1 : ¬ ((80 : Int) < T.length) := by omega
    have K1 := Lib.hid k1
    clear k1
    go_enter Tryz.func21, Tryz.ntmps21
    go_wp2_with (go_at_call 73; (with_reducible refine Calls.mono (K1.out _) ?_); rintro r w1 ⟨rfl, hb⟩; replace hB0 := hB0.trans (hb.mono hB0.size); have hz := hB0.size; replace zb := C3.carry zb hb; have zz := zb; obtain ⟨y0, y1, y2, y3, y4, y5, y6⟩ := zz)
    have s0 := y0; have s1 := y1; have s2 := y2
    obtain ⟨t0, t1, t2⟩ := set3 y0 y1 y2 (.bool F.1.n) (.int .i64 F.1.c) (.int .i64 F.1.e)
    exact bodyPost_ret (v := .tuple #[.agg #[.bool F.1.n, .int .i64 F.1.c, .int .i64 F.1.e], .bool F.2]) (by simp [results, Tryz.results21, go_sem, *]) rfl ⟨rfl, (by repeat (first | with_reducible exact Below.refl _ _ | with_reducible assumption | with_reducible refine Below.setCell ?_ (by first | omega | (simp; done) | (simp <;> omega)) _ | with_reducible refine below_drewN ?_ _ | with_reducible refine Below.drew ?_ | with_reducible refine Below.alloc ?_ (by first | omega | (simp; done) | (simp <;> omega)) _))⟩
  · rw [show rrX T = (Fd.D.z, false) from if_neg hl]
    have i1 : (80 : Int) < T.length := by omega
    clear hl
    go_enter Tryz.func21, Tryz.ntmps21
    go_wp2
    exact bodyPost_ret (v := .tuple #[.agg #[.bool false, .int .i64 0, .int .i64 0], .bool false]) (by simp [results, Tryz.results21, go_sem, *]) rfl ⟨rfl, (by repeat (first | with_reducible exact Below.refl _ _ | with_reducible assumption | with_reducible refine Below.setCell ?_ (by first | omega | (simp; done) | (simp <;> omega)) _ | with_reducible refine below_drewN ?_ _ | with_reducible refine Below.drew ?_ | with_reducible refine Below.alloc ?_ (by first | omega | (simp; done) | (simp <;> omega)) _))⟩
set_option maxRecDepth 100000 in
set_option maxHeartbeats 4000000 in
theorem ReadReal_any (T : List UInt8) (w : World) (hM : HasMax w) (hE : ErV w) :
    Calls Tryz.prog 13 #[.string ⟨T.toArray⟩] w fun r w' => r = .returned (.tuple #[.agg #[.bool (rrX T).1.n, .int .i64 (rrX T).1.c, .int .i64 (rrX T).1.e], .bool (rrX T).2]) ∧ Below w.heap.size w w' := by
  by_cases hl : T.length ≤ 80
  · rw [show rrX T = rrL T from if_pos hl]
    show KRes T w (rrL T)
    have ml : (Lib.trimSuffix (cutD T) [37]).length ≤ 80 := by
      have h1 := trimS_len (cutD T)
      have h2 := cutD_le T
      omega
    have hI := ixK_any ml
    unfold rrL rrM
    cases he : eP (Lib.trimSuffix (cutD T) [37]) with
    | none => exact ReadReal_fin T _ 0 w hl hM hE (by omega) ml (fun W _ => cutPower_none _ hI he W)
    | some p =>
      obtain ⟨a, q⟩ := p
      obtain ⟨g1, b, g2, g3⟩ := eP_mem he
      have al : a.length ≤ 80 := by
        have h3 := congrArg List.length g3
        rw [List.length_append, List.length_cons] at h3
        omega
      cases hq : pwOk q
      · simp only [hq, Bool.false_eq_true, if_false]
        refine ReadReal_no T a w hl hE (fun W hW => (cutPower_some _ a q hI ml he W hW).mono ?_) al hM
        rintro r w1 ⟨⟨h1, _⟩ | ⟨_, z, rfl⟩, hb⟩
        · rw [hq] at h1; cases h1
        · exact ⟨⟨z, rfl⟩, hb⟩
      · simp only [hq, if_true]
        refine ReadReal_fin T a (pwV q) w hl hM hE (atoi_ok hq).2 al (fun W hW => (cutPower_some _ a q hI ml he W hW).mono ?_)
        rintro r w1 ⟨⟨_, rfl⟩ | ⟨h1, _⟩, hb⟩
        · exact ⟨rfl, hb⟩
        · rw [hq] at h1; cases h1
  · rw [show rrX T = (Fd.D.z, false) from if_neg hl]
    have zb := C3.new w (.bool false) (.int .i64 0) (.int .i64 0) 24
    have hB0 : Below w.heap.size w (w.alloc (.cells #[.bool false, .int .i64 0, .int .i64 0] 24)) := Below.alloc (Below.refl _ _) (Nat.le_refl _) _
    have zz := zb
    obtain ⟨y0, y1, y2, y3, y4, y5, y6⟩ := zz
    have hsz : (⟨T.toArray⟩ : ByteArray).size = T.length := rfl
    have i1 : (80 : Int) < T.length := by omega
    clear hl
    go_enter Tryz.func13, Tryz.ntmps13
    go_wp2
    exact bodyPost_ret (v := .tuple #[.agg #[.bool false, .int .i64 0, .int .i64 0], .bool false]) (by simp [results, Tryz.results13, go_sem, *]) rfl ⟨rfl, (by repeat (first | with_reducible exact Below.refl _ _ | with_reducible assumption | with_reducible refine Below.setCell ?_ (by first | omega | (simp; done) | (simp <;> omega)) _ | with_reducible refine below_drewN ?_ _ | with_reducible refine Below.drew ?_ | with_reducible refine Below.alloc ?_ (by first | omega | (simp; done) | (simp <;> omega)) _))⟩
end Go.Proofs.YtebheehjhnaklaaGreatDoor
