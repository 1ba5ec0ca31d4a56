import Derived.Test.YtebheehjhnaklaaDoorW3B
import Derived.Laws.Runes
import Derived.Laws.RangeString
import Derived.Laws.RangeAny
import Derived.Laws.Strings3
import Derived.Deep.LoopGhost
import Derived.Lib.IndexBytes
import Derived.Handy
import Derived.WalkMore
namespace Go.Proofs.YtebheehjhnaklaaDoor
open Go.RowKit
def al4 : List UInt8 := [60, 62, 94, 61]
def si3 : List UInt8 := [45, 43, 32]
def gr2 : List UInt8 := [44, 95]
def t8 (pr : Int) (t : List UInt8) : List UInt8 := (if pr = -1 then [] else 46 :: dec2 pr.toNat) ++ t
def t7 (gr pr : Int) (t : List UInt8) : List UInt8 := mk gr2 gr ++ t8 pr t
def t6 (wi gr pr : Int) (t : List UInt8) : List UInt8 := (if 0 < wi then dec2 wi.toNat else []) ++ t7 gr pr t
def t5 (ze : Bool) (wi gr pr : Int) (t : List UInt8) : List UInt8 := (if ze then [48] else []) ++ t6 wi gr pr t
def t4 (alt ze : Bool) (wi gr pr : Int) (t : List UInt8) : List UInt8 := (if alt then [35] else []) ++ t5 ze wi gr pr t
def t3 (si : Int) (alt ze : Bool) (wi gr pr : Int) (t : List UInt8) : List UInt8 := mk si3 si ++ t4 alt ze wi gr pr t
def t2 (al si : Int) (alt ze : Bool) (wi gr pr : Int) (t : List UInt8) : List UInt8 := mk al4 al ++ t3 si alt ze wi gr pr t
end Go.Proofs.YtebheehjhnaklaaDoor
namespace Go.Proofs.YtebheehjhnaklaaDoor
open Go Go.RowKit
/-- the place of a rune among marks -/
def ixI (ms : List UInt8) (r : Int) : Int := if 0 ≤ r ∧ r < 128 then Lib.indexByte ms r.toNat.toUInt8 else -1
set_option maxHeartbeats 2000000 in
set_option maxRecDepth 1000000 in
theorem IndexRune_err (m : ByteArray) (hm : ∀ b ∈ m.data.toList, b.toNat < 128) (w : World) :
    Calls Tryd.prog 36 #[.string m, .int .i32 65533] w fun e w' => e = .returned (.int .i64 (-1)) ∧ Below w.heap.size w w' := by
  have HA := Lib.hid hm
  clear hm
  go_enter Tryd.func36, Tryd.ntmps36
  go_wp2
  go_loopg [5, 6] m.size (fun g _ _ wx => ∃ i : Nat, i + g = m.size ∧ wx = w.iter m i)
  case atStart => exact ⟨0, by omega, rfl⟩
  case round =>
    obtain ⟨i, hig, rfl⟩ := hrel
    cases gk with
    | zero =>
      obtain rfl : i = m.size := by omega
      have hnx := run_next_end (P := Tryd.prog) w m m.size
      go_wp2
      go_ret
      exact ⟨rfl, (Below.refl _ _).alloc (Nat.le_refl _) _⟩
    | succ g =>
      have hi : i < m.size := by omega
      obtain ⟨x, hx⟩ : ∃ x : UInt8, m[i]'hi = x := ⟨_, rfl⟩
      have hxl : m.data.toList[i]? = some x := by rw [← hx]; exact Lib.data_getElem? m i hi
      have hx128 : x.toNat < 128 := HA.out x (List.mem_of_getElem? hxl)
      have hnx := fun ty => run_next_ascii (P := Tryd.prog) w m i ty hi (by rw [hx]; exact hx128)
      rw [hx] at hnx
      clear hxl hx
      have hne : ((x.toNat : Int) == 65533) = false := by simp; omega
      go_wp2
      go_roundg g
      case measure => omega
      case rel => exact ⟨i + 1, by omega, rfl⟩
set_option maxHeartbeats 2000000 in
set_option maxRecDepth 1000000 in
theorem IndexRune_bad (m : ByteArray) (r : Int) (h0 : 128 ≤ r) (h1 : ¬ r = 65533) (hv : Utf8.valid r = false) (w : World) :
    Calls Tryd.prog 36 #[.string m, .int .i32 r] w fun e w' => e = .returned (.int .i64 (-1)) ∧ Below w.heap.size w w' := by
  have k1 : ∀ W, Calls Tryd.prog 46 #[.int .i32 r] W fun e w' => e = .returned (.bool false) ∧ W = w' := fun W => by
    refine (Tryd.utf8_ValidRune r W).mono ?_
    rintro e w1 ⟨rfl, rfl⟩
    rw [show Lib.validRune r = Utf8.valid r from (Go.validRune_eq r).symm, hv]
    exact ⟨rfl, rfl⟩
  have K1 := Lib.hid k1
  clear k1 hv
  have i1 : ¬ r < 128 := by omega
  have i2 : 0 ≤ r := by omega
  have i3 : (r == 65533) = false := by simpa using h1
  clear h1
  go_enter Tryd.func36, Tryd.ntmps36
  go_wp2_with (go_at_call 46; (with_reducible refine Calls.mono (K1.out _) ?_); rintro e w1 ⟨rfl, rfl⟩)
  go_ret
  exact ⟨rfl, Below.refl _ _⟩
theorem byte_at {s : ByteArray} {k : Nat} (h : k < s.size) : s[k] ∈ s.data.toList := List.mem_of_getElem? (Lib.data_getElem? s k h)
theorem idx_high {l : List UInt8} (hl : ∀ b ∈ l, b.toNat < 128) {c : UInt8} (hc : 128 ≤ c.toNat) : Lib.indexByte l c = -1 := by
  induction l with
  | nil => rfl
  | cons a r ih =>
    have ha := hl a (by simp)
    have hn : ¬ a = c := fun e => by rw [e] at ha; omega
    rw [Lib.indexByte, ih (fun b hb => hl b (by simp [hb]))]
    simp [hn]
set_option maxHeartbeats 4000000 in
set_option maxRecDepth 1000000 in
theorem IndexRune_far (m E : ByteArray) (L : Nat) (r : Int) (c : UInt8) (h0 : 128 ≤ r) (h1 : ¬ r = 65533) (hv : Utf8.valid r = true) (hm : ∀ b ∈ m.data.toList, b.toNat < 128) (hE : Utf8.encode r = E) (hL : E.size = L + 1) (hL1 : 1 ≤ L) (hL4 : L ≤ 3) (hcE : ∀ h : L < E.size, E[L]'h = c) (hc : 128 ≤ c.toNat) (w : World) :
    Calls Tryd.prog 36 #[.string m, .int .i32 r] w fun e w' => e = .returned (.int .i64 (-1)) ∧ Below w.heap.size w w' := by
  have k1 : ∀ W, Calls Tryd.prog 46 #[.int .i32 r] W fun e w' => e = .returned (.bool true) ∧ W = w' := fun W => by
    refine (Tryd.utf8_ValidRune r W).mono ?_
    rintro e w1 ⟨rfl, rfl⟩
    rw [show Lib.validRune r = Utf8.valid r from (Go.validRune_eq r).symm, hv]
    exact ⟨rfl, rfl⟩
  have k3 : ∀ W, Calls Tryd.prog 45 #[.string (m.extract (L + 1) m.size), .int .u8 c.toNat] W fun e w' => e = .returned (.int .i64 (-1)) ∧ Below W.heap.size W w' := fun W => by
    refine (Tryd.strings_IndexByte _ _ W).mono ?_
    rintro e w1 ⟨rfl, rfl⟩
    refine ⟨?_, Below.refl _ _⟩
    rw [show (((c.toNat : Nat) : Int)).toNat.toUInt8 = c by simp, idx_high (fun b hb => hm b (mem_extract hb)) hc]
  have e1 : (E.size : Int) - 1 = L := by omega
  have i1 : ¬ r < 128 := by omega
  have i2 : 0 ≤ r := by omega
  have i3 : (r == 65533) = false := by simpa using h1
  have i5 : L < E.size := by omega
  have i6 : (L : Int) < E.size := by omega
  have K1 := Lib.hid k1; have K3 := Lib.hid k3
  by_cases hs : L < m.size
  · obtain ⟨x, hx⟩ : ∃ x : UInt8, m[L]'hs = x := ⟨_, rfl⟩
    have hx1 : x.toNat < 128 := hm x (by rw [← hx]; exact byte_at hs)
    have hne : ((x.toNat : Int) == (c.toNat : Int)) = false := by simp; omega
    have hne2 : ((x.toNat : Int) != (c.toNat : Int)) = true := by simp; omega
    clear k1 k3 hm hv hL hc hx1
    have i4 : (L : Int) < m.size := by omega
    have i7 : (L : Int) + 1 ≤ m.size := by omega
    clear h1
    go_enter Tryd.func36, Tryd.ntmps36
    go_wp2_with (go_at_call 46; (with_reducible refine Calls.mono (K1.out _) ?_); rintro e w1 ⟨rfl, rfl⟩)
    go_step3
    go_wp2
    go_loopg [9, 10] 0 (fun _ s9 s10 wr => w = wr ∧ s9 = .int .i64 L ∧ s10 = .int .i64 0)
    case atStart => exact ⟨rfl, rfl, rfl⟩
    case round =>
      obtain ⟨rfl, rfl, rfl⟩ := hrel
      go_wp2
      go_step3
      go_wp2
      have hB := Below.refl w.heap.size w
      refine wp_region_since (by kernel_rfl) (by kernel_rfl) ?_
      repeat (quiet_step (fail))
      refine wpQuiet_nil ?_
      intro w_ hw_
      obtain ⟨⟨w1, hb⟩, hw2⟩ := hw_
      have hw3 : w1 = w_ := hw2.symm
      clear hw2
      subst hw3
      replace hB := hB.trans (hb.mono hB.size)
      have hz := hb.size
      go_wp2
      have v1 : IntKind.i64.wrap ((L : Int) + 1) = (L : Int) + 1 := wrap_small _ (by omega) (by omega)
      have v2 : ((L : Int) + 1).toNat = L + 1 := by omega
      have v3 : (0 : Int) ≤ (L : Int) + 1 := by omega
      refine wp_region_since (by kernel_rfl) (by kernel_rfl) ?_
      repeat (quiet_step ((go_at_call 45; with_reducible exact Calls.since_of (K3.out _))))
      refine wpQuiet_nil ?_
      intro w_ hw_
      obtain ⟨⟨w1, hb⟩, hw2⟩ := hw_
      have hw3 : w1 = w_ := hw2.symm
      clear hw2
      subst hw3
      replace hB := hB.trans (hb.mono hB.size)
      have hz := hb.size
      go_wp2
      rw [Exit.noGoto_ret]
      go_wp2
      try rw [Exit.noGoto_ret]
      go_ret
      exact ⟨rfl, hB⟩
  · clear k1 k3 hm hv hL hc
    have i4 : ¬ (L : Int) < m.size := by omega
    clear h1
    go_enter Tryd.func36, Tryd.ntmps36
    go_wp2_with (go_at_call 46; (with_reducible refine Calls.mono (K1.out _) ?_); rintro e w1 ⟨rfl, rfl⟩)
    go_step3
    go_wp2
    go_loopg [9, 10] 0 (fun _ s9 s10 wr => w = wr ∧ s9 = .int .i64 L ∧ s10 = .int .i64 0)
    case atStart => exact ⟨rfl, rfl, rfl⟩
    case round =>
      obtain ⟨rfl, rfl, rfl⟩ := hrel
      go_wp2
      rw [Exit.noGoto_ret]
      go_ret
      exact ⟨rfl, Below.refl _ _⟩
theorem IndexRune_any (m : ByteArray) (hm : ∀ b ∈ m.data.toList, b.toNat < 128) (r : Int) (h0 : 0 ≤ r) (w : World) :
    Calls Tryd.prog 36 #[.string m, .int .i32 r] w fun e w' => e = .returned (.int .i64 (ixI m.data.toList r)) ∧ Below w.heap.size w w' := by
  by_cases h1 : r < 128
  · refine (Tryd.strings_IndexRune_ascii m r w h0 h1).mono ?_
    rintro e w1 ⟨rfl, rfl⟩
    refine ⟨?_, Below.refl _ _⟩
    unfold ixI
    rw [if_pos ⟨h0, h1⟩]
  · rw [show ixI m.data.toList r = -1 by unfold ixI; rw [if_neg (by omega)]]
    by_cases h2 : r = 65533
    · subst h2
      exact IndexRune_err m hm w
    · cases hv : Utf8.valid r
      · exact IndexRune_bad m r (by omega) h2 hv w
      · obtain ⟨f1, f2, f3⟩ := encode_facts r hv (by omega)
        obtain ⟨L, hL⟩ : ∃ L, (Utf8.encode r).size = L + 1 := ⟨(Utf8.encode r).size - 1, by omega⟩
        have hlt : L < (Utf8.encode r).size := by omega
        refine IndexRune_far m (Utf8.encode r) L r ((Utf8.encode r)[L]'hlt) (by omega) h2 hv hm rfl hL (by omega) (by omega) (fun _ => rfl) ?_ w
        have := f3 (by omega)
        simpa [hL] using this
end Go.Proofs.YtebheehjhnaklaaDoor
