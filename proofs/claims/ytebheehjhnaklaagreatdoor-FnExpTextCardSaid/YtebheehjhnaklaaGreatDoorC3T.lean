import Derived.Test.YtebheehjhnaklaaGreatDoorRows
import Derived.Test.YtebheehjhnaklaaGreatDoorShelf
import Derived.WalkKit
import Derived.WalkSpells
import Derived.WalkLawsBesides
import Derived.BigQuiet
import Derived.Deep.QuietTactic
import Derived.Deep.LoopGhost
import Derived.Lib.Hide
import Derived.Lib.IndexLaws
import Derived.Deep.RegionHeld
namespace Go.Proofs.YtebheehjhnaklaaGreatDoor
open Go.RowKit
theorem ret_bool {a b : Bool} (h : a = b) : Ending.returned (.bool a) = .returned (.bool b) := by rw [h]
def inr (n lo hi : Int) : Bool := decide (lo ≤ n) && decide (n ≤ hi)
set_option maxHeartbeats 400000 in
theorem within_any (n lo hi : Int) (w : World) :
    Calls Tryz.prog 44 #[.int .i64 n, .int .i64 lo, .int .i64 hi] w fun r w' => r = .returned (.bool (inr n lo hi)) ∧ w = w' := by
  go_enter Tryz.func44, Tryz.ntmps44
  go_wp2
  all_goals go_ret
  all_goals exact ⟨ret_bool (by simp [inr]; try omega), rfl⟩
set_option maxHeartbeats 400000 in
theorem inRangeS_any (n lo hi : Int) (w : World) :
    Calls Tryz.prog 48 #[.int .i64 n, .int .i64 lo, .int .i64 hi] w fun r w' => r = .returned (.bool (inr n lo hi)) ∧ w = w' := by
  go_enter Tryz.func48, Tryz.ntmps48
  go_wp2
  all_goals go_ret
  all_goals exact ⟨ret_bool (by simp [inr]; try omega), rfl⟩
/-- the text's ways: none, one byte, more -/
theorem bytes_cases (s : ByteArray) : s = ⟨#[]⟩ ∨ (∃ b, s = ⟨#[b]⟩) ∨ 2 ≤ s.size := by
  obtain ⟨⟨l⟩⟩ := s
  match l with
  | [] => exact .inl rfl
  | [b] => exact .inr (.inl ⟨b, rfl⟩)
  | _ :: _ :: l => exact .inr (.inr (by simp [ByteArray.size]))
theorem loop_ne (s : ByteArray) : ∀ (n i : Nat) (acc : List UInt8), s.size - i = n → acc ≠ [] → ByteArray.toList.loop s i acc ≠ [] := by
  intro n
  induction n with
  | zero =>
    intro i acc hn ha
    rw [ByteArray.toList.loop, if_neg (by omega)]
    simpa using ha
  | succ n ih =>
    intro i acc hn ha
    rw [ByteArray.toList.loop, if_pos (by omega)]
    exact ih (i + 1) _ (by omega) (by simp)
theorem nonempty_list {s : ByteArray} (h : 1 ≤ s.size) : s.toList.isEmpty = false := by
  have : s.toList ≠ [] := by
    rw [ByteArray.toList, ByteArray.toList.loop, if_pos (by omega)]
    exact loop_ne s _ _ _ rfl (by simp)
  simpa using this
theorem ret_int {k : IntKind} {a b : Int} (h : a = b) : Ending.returned (.int k a) = .returned (.int k b) := by rw [h]
theorem byte_eq {b k : UInt8} (h : ((k.toNat : Int) == (b.toNat : Int)) = true) : b = k := by
  have h1 : (k.toNat : Int) = b.toNat := by simpa using h
  exact UInt8.toNat_inj.1 (by omega)
theorem byte_ne {b k : UInt8} (h : ((k.toNat : Int) == (b.toNat : Int)) = false) : (k == b) = false := by
  have h1 : ¬ (k.toNat : Int) = b.toNat := by simpa using h
  simp only [beq_eq_false_iff_ne]
  intro q; exact h1 (by rw [q])
theorem ret_str {a b : ByteArray} (h : a = b) : Ending.returned (.string a) = .returned (.string b) := by rw [h]
/-- the number of a digit in some base, 16 where there is none -/
def dg (n : Int) : Int := if 48 ≤ n ∧ n ≤ 57 then n - 48 else if 97 ≤ n ∧ n ≤ 102 then n - 87 else if 65 ≤ n ∧ n ≤ 70 then n - 55 else 16
theorem dg_ge (n : Int) : 0 ≤ dg n := by unfold dg; split <;> (try split) <;> (try split) <;> omega
theorem dg_le (n : Int) : dg n ≤ 16 := by unfold dg; split <;> (try split) <;> (try split) <;> omega
/-- the number of the digits l behind n -/
def vRun (base : Int) : List UInt8 → Int → Int
  | [], n => n
  | b :: l, n => if dg b.toNat ≥ base then -1 else if n * base + dg b.toNat > 999999999999 then -1 else vRun base l (n * base + dg b.toNat)
def valW (s : ByteArray) (base : Int) : Int := if s.size = 0 then -1 else if base < 2 then -1 else if 16 < base then -1 else vRun base s.data.toList 0
theorem drop_at {s : ByteArray} {k : Nat} (h : k < s.size) : s.data.toList.drop k = s[k] :: s.data.toList.drop (k + 1) := by
  have h' : k < s.data.toList.length := by rw [Array.length_toList]; exact h
  rw [List.drop_eq_getElem_cons h']
  rfl
theorem drop_end {s : ByteArray} {k : Nat} (h : s.size ≤ k) : s.data.toList.drop k = [] :=
  List.drop_eq_nil_of_le (by rw [Array.length_toList]; exact h)
end Go.Proofs.YtebheehjhnaklaaGreatDoor
namespace Go.Proofs.YtebheehjhnaklaaGreatDoor
open Go.RowKit
/-- what holds at all 256 bytes, looked at one by one -/
theorem all_bytes (p : UInt8 → Bool) (h : ((List.range 256).all fun n => p (UInt8.ofNat n)) = true) (b : UInt8) : p b = true := by
  have hb : b.toNat < 256 := b.toNat_lt
  have := List.all_eq_true.1 h b.toNat (List.mem_range.2 hb)
  simpa using this
end Go.Proofs.YtebheehjhnaklaaGreatDoor
namespace Go.Proofs.YtebheehjhnaklaaGreatDoor
open Go.RowKit
theorem set_frozen (w : World) (p : Addr) (v : Value) (b o : Nat) : (w.setCell p v).frozen? ⟨b, o, none⟩ = w.frozen? ⟨b, o, none⟩ := by simp [go_sem]
/-- a world after W in which nothing old has turned -/
structure Since (W : World) where
  v : World
  h : Below W.heap.size W v
instance (W : World) : Nonempty (Since W) := ⟨⟨W, Below.refl _ _⟩⟩
instance (W : World) : Inhabited (Since W) := ⟨⟨W, Below.refl _ _⟩⟩
theorem wp_region_since {P : Program} {id : Nat} {Q : Exit → Act → World → Prop} {a : Act} {w : World} {l : List Oper} (hm : P.follows .mixedOrders = true) (hB : Region.lexB .any l.toArray = true)
    (h : wpQuiet P l.toArray (fun w' => ∃ p : Since w, w' = p.v) (fun a' => ∀ w', (∃ p : Since w, w' = p.v) → Q .normal a' w') l a) : (Code.region id l.toArray true).wp P Q a w :=
  wp_region_quiet (C := fun w' => ∃ p : Since w, w' = p.v) hm hB ⟨⟨w.drew, (Below.refl _ _).drew⟩, rfl⟩ (by simpa using h)
theorem Calls.since_of {P : Program} {f : FuncId} {args : Array Value} {W : World} {p : Since W} {v : Value} (h : Calls P f args p.v fun r w' => r = .returned v ∧ Below p.v.heap.size p.v w') :
    Calls P f args p.v fun e w'' => e = .returned v ∧ ∃ q : Since W, w'' = q.v :=
  h.mono fun _ w'' ⟨he, hb⟩ => ⟨he, ⟨w'', p.h.trans (hb.mono p.h.size)⟩, rfl⟩
end Go.Proofs.YtebheehjhnaklaaGreatDoor
namespace Go.Proofs.YtebheehjhnaklaaGreatDoor
open Go.RowKit
/-- three cells of a block, as a later world has them -/
def C3 (w1 : World) (g : Nat) (x y z : Value) : Prop := w1.cell? ⟨g, 0, none⟩ = some x ∧ w1.cell? ⟨g, 1, none⟩ = some y ∧ w1.cell? ⟨g, 2, none⟩ = some z ∧
  w1.frozen? ⟨g, 0, none⟩ = false ∧ w1.frozen? ⟨g, 1, none⟩ = false ∧ w1.frozen? ⟨g, 2, none⟩ = false ∧ g < w1.heap.size
theorem C3.new (V : World) (x y z : Value) (t : TypeId) : C3 (V.alloc (.cells #[x, y, z] t)) V.heap.size x y z := by
  refine ⟨?_, ?_, ?_, ?_, ?_, ?_, ?_⟩ <;> simp [go_sem]
theorem C3.carry {V w1 : World} {g : Nat} {x y z : Value} (h : C3 V g x y z) (hb : Below V.heap.size V w1) : C3 w1 g x y z := by
  obtain ⟨a, b, c, d, e, f, u⟩ := h
  have hz := hb.size
  exact ⟨(hb.cell u).trans a, (hb.cell u).trans b, (hb.cell u).trans c, (hb.frozen u).trans d, (hb.frozen u).trans e, (hb.frozen u).trans f, by omega⟩
theorem C3.up {V : World} {g : Nat} {x y z : Value} (h : C3 V g x y z) (o : Obj) : C3 (V.alloc o) g x y z := h.carry ((Below.refl _ _).alloc (Nat.le_refl _) _)
theorem C3.drew {w : World} {g : Nat} {x y z : Value} (h : C3 w g x y z) : C3 w.drew g x y z := h
/-- a store into another block -/
theorem C3.far {w : World} {g : Nat} {x y z : Value} (h : C3 w g x y z) {b o : Nat} (v : Value) (hn : b ≠ g) : C3 (w.setCell ⟨b, o, none⟩ v) g x y z := by
  obtain ⟨a0, a1, a2, f0, f1, f2, u⟩ := h
  refine ⟨?_, ?_, ?_, ?_, ?_, ?_, ?_⟩
  · rw [World.cell?_setCell_far _ ⟨b, o, none⟩ _ _ hn]; exact a0
  · rw [World.cell?_setCell_far _ ⟨b, o, none⟩ _ _ hn]; exact a1
  · rw [World.cell?_setCell_far _ ⟨b, o, none⟩ _ _ hn]; exact a2
  · rw [set_frozen]; exact f0
  · rw [set_frozen]; exact f1
  · rw [set_frozen]; exact f2
  · simpa [World.setCell] using u
theorem C3.since {W : World} {g : Nat} {x y z : Value} (h : C3 W g x y z) : (∀ p : Since W, p.v.cell? ⟨g, 0, none⟩ = some x) ∧ (∀ p : Since W, p.v.cell? ⟨g, 1, none⟩ = some y) ∧ (∀ p : Since W, p.v.cell? ⟨g, 2, none⟩ = some z) :=
  ⟨fun p => (h.carry p.h).1, fun p => (h.carry p.h).2.1, fun p => (h.carry p.h).2.2.1⟩
end Go.Proofs.YtebheehjhnaklaaGreatDoor
