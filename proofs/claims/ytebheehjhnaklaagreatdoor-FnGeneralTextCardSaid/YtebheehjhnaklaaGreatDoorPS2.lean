import Derived.Test.YtebheehjhnaklaaGreatDoorW3B
import Derived.Laws.Runes
import Derived.Laws.RangeString
import Derived.Laws.RangeAny
import Derived.Laws.Strings3
import Derived.Deep.LoopGhost
import Derived.Lib.IndexBytes
import Derived.Handy
import Derived.WalkMore
namespace Go.Proofs.YtebheehjhnaklaaGreatDoor
open Go.RowKit
def al4 : List UInt8 := [60, 62, 94, 61]
def si3 : List UInt8 := [45, 43, 32]
def gr2 : List UInt8 := [44, 95]
def d19 : List UInt8 := [49, 50, 51, 52, 53, 54, 55, 56, 57]
def d09 : List UInt8 := [48, 49, 50, 51, 52, 53, 54, 55, 56, 57]
section
variable {α : Type} (ix : List UInt8 → α → Int)
/-- the place of what is next among marks, from 1 on, and what is left -/
def tk (ms : List UInt8) : List α → Int × List α
  | [] => (0, [])
  | b :: l => if 0 ≤ ix ms b then (ix ms b + 1, l) else (0, b :: l)
def tkF : List α → Option α × List α
  | a :: b :: r => if 0 ≤ ix al4 b then (some a, b :: r) else (none, a :: b :: r)
  | l => (none, l)
def tkW (l : List α) : Int × List α :=
  let a := tk ix d19 l
  if a.1 = 0 then (0, a.2) else
    let p := tk ix d09 a.2
    if 0 < p.1 then (10 * a.1 + p.1 - 1, p.2) else (a.1, p.2)
def tkP (l : List α) : Int × List α :=
  let a := tk ix [46] l
  if a.1 = 0 then (-1, a.2) else
    let p := tk ix d09 a.2
    (p.1 - 1, p.2)
end
def hdIn (S : List UInt8) : List UInt8 → Bool
  | [] => true
  | b :: _ => S.contains b
theorem hdIn_app {S x l : List UInt8} (hx : hdIn S x = true) (hl : hdIn S l = true) : hdIn S (x ++ l) = true := by
  cases x with
  | nil => exact hl
  | cons b r => exact hx
theorem hdIn_mono {S T l : List UInt8} (h : hdIn S l = true) (hs : (S.all fun b => T.contains b) = true) : hdIn T l = true := by
  cases l with
  | nil => rfl
  | cons b r => exact List.all_eq_true.1 hs b (by simpa [hdIn] using h)
section
variable {α : Type} {ix : List UInt8 → α → Int} {e : UInt8 → α} (hix : ∀ ms b, b.toNat < 128 → ix ms (e b) = Lib.indexByte ms b)
include hix
theorem tk_no {ms S l : List UInt8} (h : hdIn S l = true) (hs : (S.all fun b => decide (Lib.indexByte ms b < 0) && decide (b.toNat < 128)) = true) : tk ix ms (l.map e) = (0, l.map e) := by
  cases l with
  | nil => rfl
  | cons b r =>
    have h1 := List.all_eq_true.1 hs b (by simpa [hdIn] using h)
    simp only [Bool.and_eq_true, decide_eq_true_eq] at h1
    show (if 0 ≤ ix ms (e b) then _ else _) = _
    rw [hix ms b h1.2, if_neg (by omega)]
    rfl
theorem tk_hit {ms : List UInt8} {b : UInt8} {k : Int} (hb : b.toNat < 128) (hk : Lib.indexByte ms b + 1 = k) (h0 : 0 < k) (l : List α) : tk ix ms (e b :: l) = (k, l) := by
  show (if 0 ≤ ix ms (e b) then _ else _) = _
  rw [hix ms b hb, if_pos (by omega), hk]
theorem tk_al {k : Int} (h0 : 0 ≤ k) (h1 : k ≤ 4) {l : List α} (h : tk ix al4 l = (0, l)) : tk ix al4 ((mk al4 k).map e ++ l) = (k, l) := by
  have hk : k = 0 ∨ k = 1 ∨ k = 2 ∨ k = 3 ∨ k = 4 := by omega
  rcases hk with rfl | rfl | rfl | rfl | rfl
  · exact h
  all_goals exact tk_hit hix (by decide) (by decide) (by decide) l
theorem tk_si {k : Int} (h0 : 0 ≤ k) (h1 : k ≤ 3) {l : List α} (h : tk ix si3 l = (0, l)) : tk ix si3 ((mk si3 k).map e ++ l) = (k, l) := by
  have hk : k = 0 ∨ k = 1 ∨ k = 2 ∨ k = 3 := by omega
  rcases hk with rfl | rfl | rfl | rfl
  · exact h
  all_goals exact tk_hit hix (by decide) (by decide) (by decide) l
theorem tk_gr {k : Int} (h0 : 0 ≤ k) (h1 : k ≤ 2) {l : List α} (h : tk ix gr2 l = (0, l)) : tk ix gr2 ((mk gr2 k).map e ++ l) = (k, l) := by
  have hk : k = 0 ∨ k = 1 ∨ k = 2 := by omega
  rcases hk with rfl | rfl | rfl
  · exact h
  all_goals exact tk_hit hix (by decide) (by decide) (by decide) l
theorem tk_b (m : UInt8) (hm : m.toNat < 128) (x : Bool) {l : List α} (h : tk ix [m] l = (0, l)) : tk ix [m] ((if x then [m] else []).map e ++ l) = (if x then 1 else 0, l) := by
  cases x
  · exact h
  · exact tk_hit hix hm (by simp [Lib.indexByte]) (by decide) l
theorem tkW_dec {k : Int} (h0 : 0 ≤ k) (h1 : k ≤ 30) {l : List α} (h : tk ix d09 l = (0, l)) (h' : tk ix d19 l = (0, l)) : tkW ix ((if 0 < k then dec2 k.toNat else []).map e ++ l) = (k, l) := by
  have hk : k = 0 ∨ k = 1 ∨ k = 2 ∨ k = 3 ∨ k = 4 ∨ k = 5 ∨ k = 6 ∨ k = 7 ∨ k = 8 ∨ k = 9 ∨ k = 10 ∨ k = 11 ∨ k = 12 ∨ k = 13 ∨ k = 14 ∨ k = 15 ∨ k = 16 ∨ k = 17 ∨ k = 18 ∨ k = 19 ∨ k = 20 ∨ k = 21 ∨ k = 22 ∨ k = 23 ∨ k = 24 ∨ k = 25 ∨ k = 26 ∨ k = 27 ∨ k = 28 ∨ k = 29 ∨ k = 30 := by omega
  rcases hk with rfl | rfl | rfl | rfl | rfl | rfl | rfl | rfl | rfl | rfl | rfl | rfl | rfl | rfl | rfl | rfl | rfl | rfl | rfl | rfl | rfl | rfl | rfl | rfl | rfl | rfl | rfl | rfl | rfl | rfl | rfl
  · show tkW ix l = _
    unfold tkW
    rw [h']
    rfl
  · show tkW ix (e 49 :: l) = _
    unfold tkW
    rw [tk_hit hix (ms := d19) (b := 49) (k := 1) (by decide) (by decide) (by decide) l]
    simp only [h]
    rfl
  · show tkW ix (e 50 :: l) = _
    unfold tkW
    rw [tk_hit hix (ms := d19) (b := 50) (k := 2) (by decide) (by decide) (by decide) l]
    simp only [h]
    rfl
  · show tkW ix (e 51 :: l) = _
    unfold tkW
    rw [tk_hit hix (ms := d19) (b := 51) (k := 3) (by decide) (by decide) (by decide) l]
    simp only [h]
    rfl
  · show tkW ix (e 52 :: l) = _
    unfold tkW
    rw [tk_hit hix (ms := d19) (b := 52) (k := 4) (by decide) (by decide) (by decide) l]
    simp only [h]
    rfl
  · show tkW ix (e 53 :: l) = _
    unfold tkW
    rw [tk_hit hix (ms := d19) (b := 53) (k := 5) (by decide) (by decide) (by decide) l]
    simp only [h]
    rfl
  · show tkW ix (e 54 :: l) = _
    unfold tkW
    rw [tk_hit hix (ms := d19) (b := 54) (k := 6) (by decide) (by decide) (by decide) l]
    simp only [h]
    rfl
  · show tkW ix (e 55 :: l) = _
    unfold tkW
    rw [tk_hit hix (ms := d19) (b := 55) (k := 7) (by decide) (by decide) (by decide) l]
    simp only [h]
    rfl
  · show tkW ix (e 56 :: l) = _
    unfold tkW
    rw [tk_hit hix (ms := d19) (b := 56) (k := 8) (by decide) (by decide) (by decide) l]
    simp only [h]
    rfl
  · show tkW ix (e 57 :: l) = _
    unfold tkW
    rw [tk_hit hix (ms := d19) (b := 57) (k := 9) (by decide) (by decide) (by decide) l]
    simp only [h]
    rfl
  · show tkW ix (e 49 :: e 48 :: l) = _
    unfold tkW
    rw [tk_hit hix (ms := d19) (b := 49) (k := 1) (by decide) (by decide) (by decide) (e 48 :: l)]
    simp only [tk_hit hix (ms := d09) (b := 48) (k := 1) (by decide) (by decide) (by decide) l]
    rfl
  · show tkW ix (e 49 :: e 49 :: l) = _
    unfold tkW
    rw [tk_hit hix (ms := d19) (b := 49) (k := 1) (by decide) (by decide) (by decide) (e 49 :: l)]
    simp only [tk_hit hix (ms := d09) (b := 49) (k := 2) (by decide) (by decide) (by decide) l]
    rfl
  · show tkW ix (e 49 :: e 50 :: l) = _
    unfold tkW
    rw [tk_hit hix (ms := d19) (b := 49) (k := 1) (by decide) (by decide) (by decide) (e 50 :: l)]
    simp only [tk_hit hix (ms := d09) (b := 50) (k := 3) (by decide) (by decide) (by decide) l]
    rfl
  · show tkW ix (e 49 :: e 51 :: l) = _
    unfold tkW
    rw [tk_hit hix (ms := d19) (b := 49) (k := 1) (by decide) (by decide) (by decide) (e 51 :: l)]
    simp only [tk_hit hix (ms := d09) (b := 51) (k := 4) (by decide) (by decide) (by decide) l]
    rfl
  · show tkW ix (e 49 :: e 52 :: l) = _
    unfold tkW
    rw [tk_hit hix (ms := d19) (b := 49) (k := 1) (by decide) (by decide) (by decide) (e 52 :: l)]
    simp only [tk_hit hix (ms := d09) (b := 52) (k := 5) (by decide) (by decide) (by decide) l]
    rfl
  · show tkW ix (e 49 :: e 53 :: l) = _
    unfold tkW
    rw [tk_hit hix (ms := d19) (b := 49) (k := 1) (by decide) (by decide) (by decide) (e 53 :: l)]
    simp only [tk_hit hix (ms := d09) (b := 53) (k := 6) (by decide) (by decide) (by decide) l]
    rfl
  · show tkW ix (e 49 :: e 54 :: l) = _
    unfold tkW
    rw [tk_hit hix (ms := d19) (b := 49) (k := 1) (by decide) (by decide) (by decide) (e 54 :: l)]
    simp only [tk_hit hix (ms := d09) (b := 54) (k := 7) (by decide) (by decide) (by decide) l]
    rfl
  · show tkW ix (e 49 :: e 55 :: l) = _
    unfold tkW
    rw [tk_hit hix (ms := d19) (b := 49) (k := 1) (by decide) (by decide) (by decide) (e 55 :: l)]
    simp only [tk_hit hix (ms := d09) (b := 55) (k := 8) (by decide) (by decide) (by decide) l]
    rfl
  · show tkW ix (e 49 :: e 56 :: l) = _
    unfold tkW
    rw [tk_hit hix (ms := d19) (b := 49) (k := 1) (by decide) (by decide) (by decide) (e 56 :: l)]
    simp only [tk_hit hix (ms := d09) (b := 56) (k := 9) (by decide) (by decide) (by decide) l]
    rfl
  · show tkW ix (e 49 :: e 57 :: l) = _
    unfold tkW
    rw [tk_hit hix (ms := d19) (b := 49) (k := 1) (by decide) (by decide) (by decide) (e 57 :: l)]
    simp only [tk_hit hix (ms := d09) (b := 57) (k := 10) (by decide) (by decide) (by decide) l]
    rfl
  · show tkW ix (e 50 :: e 48 :: l) = _
    unfold tkW
    rw [tk_hit hix (ms := d19) (b := 50) (k := 2) (by decide) (by decide) (by decide) (e 48 :: l)]
    simp only [tk_hit hix (ms := d09) (b := 48) (k := 1) (by decide) (by decide) (by decide) l]
    rfl
  · show tkW ix (e 50 :: e 49 :: l) = _
    unfold tkW
    rw [tk_hit hix (ms := d19) (b := 50) (k := 2) (by decide) (by decide) (by decide) (e 49 :: l)]
    simp only [tk_hit hix (ms := d09) (b := 49) (k := 2) (by decide) (by decide) (by decide) l]
    rfl
  · show tkW ix (e 50 :: e 50 :: l) = _
    unfold tkW
    rw [tk_hit hix (ms := d19) (b := 50) (k := 2) (by decide) (by decide) (by decide) (e 50 :: l)]
    simp only [tk_hit hix (ms := d09) (b := 50) (k := 3) (by decide) (by decide) (by decide) l]
    rfl
  · show tkW ix (e 50 :: e 51 :: l) = _
    unfold tkW
    rw [tk_hit hix (ms := d19) (b := 50) (k := 2) (by decide) (by decide) (by decide) (e 51 :: l)]
    simp only [tk_hit hix (ms := d09) (b := 51) (k := 4) (by decide) (by decide) (by decide) l]
    rfl
  · show tkW ix (e 50 :: e 52 :: l) = _
    unfold tkW
    rw [tk_hit hix (ms := d19) (b := 50) (k := 2) (by decide) (by decide) (by decide) (e 52 :: l)]
    simp only [tk_hit hix (ms := d09) (b := 52) (k := 5) (by decide) (by decide) (by decide) l]
    rfl
  · show tkW ix (e 50 :: e 53 :: l) = _
    unfold tkW
    rw [tk_hit hix (ms := d19) (b := 50) (k := 2) (by decide) (by decide) (by decide) (e 53 :: l)]
    simp only [tk_hit hix (ms := d09) (b := 53) (k := 6) (by decide) (by decide) (by decide) l]
    rfl
  · show tkW ix (e 50 :: e 54 :: l) = _
    unfold tkW
    rw [tk_hit hix (ms := d19) (b := 50) (k := 2) (by decide) (by decide) (by decide) (e 54 :: l)]
    simp only [tk_hit hix (ms := d09) (b := 54) (k := 7) (by decide) (by decide) (by decide) l]
    rfl
  · show tkW ix (e 50 :: e 55 :: l) = _
    unfold tkW
    rw [tk_hit hix (ms := d19) (b := 50) (k := 2) (by decide) (by decide) (by decide) (e 55 :: l)]
    simp only [tk_hit hix (ms := d09) (b := 55) (k := 8) (by decide) (by decide) (by decide) l]
    rfl
  · show tkW ix (e 50 :: e 56 :: l) = _
    unfold tkW
    rw [tk_hit hix (ms := d19) (b := 50) (k := 2) (by decide) (by decide) (by decide) (e 56 :: l)]
    simp only [tk_hit hix (ms := d09) (b := 56) (k := 9) (by decide) (by decide) (by decide) l]
    rfl
  · show tkW ix (e 50 :: e 57 :: l) = _
    unfold tkW
    rw [tk_hit hix (ms := d19) (b := 50) (k := 2) (by decide) (by decide) (by decide) (e 57 :: l)]
    simp only [tk_hit hix (ms := d09) (b := 57) (k := 10) (by decide) (by decide) (by decide) l]
    rfl
  · show tkW ix (e 51 :: e 48 :: l) = _
    unfold tkW
    rw [tk_hit hix (ms := d19) (b := 51) (k := 3) (by decide) (by decide) (by decide) (e 48 :: l)]
    simp only [tk_hit hix (ms := d09) (b := 48) (k := 1) (by decide) (by decide) (by decide) l]
    rfl
theorem tkP_dec {k : Int} (h0 : -1 ≤ k) (h1 : k ≤ 9) {l : List α} (h : tk ix [46] l = (0, l)) : tkP ix ((if k = -1 then [] else 46 :: dec2 k.toNat).map e ++ l) = (k, l) := by
  have hk : k = -1 ∨ k = 0 ∨ k = 1 ∨ k = 2 ∨ k = 3 ∨ k = 4 ∨ k = 5 ∨ k = 6 ∨ k = 7 ∨ k = 8 ∨ k = 9 := by omega
  rcases hk with rfl | rfl | rfl | rfl | rfl | rfl | rfl | rfl | rfl | rfl | rfl
  · show tkP ix l = _
    unfold tkP
    rw [h]
    rfl
  · show tkP ix (e 46 :: e 48 :: l) = _
    unfold tkP
    rw [tk_hit hix (ms := [46]) (b := 46) (k := 1) (by decide) (by decide) (by decide) (e 48 :: l)]
    simp only [tk_hit hix (ms := d09) (b := 48) (k := 1) (by decide) (by decide) (by decide) l]
    rfl
  · show tkP ix (e 46 :: e 49 :: l) = _
    unfold tkP
    rw [tk_hit hix (ms := [46]) (b := 46) (k := 1) (by decide) (by decide) (by decide) (e 49 :: l)]
    simp only [tk_hit hix (ms := d09) (b := 49) (k := 2) (by decide) (by decide) (by decide) l]
    rfl
  · show tkP ix (e 46 :: e 50 :: l) = _
    unfold tkP
    rw [tk_hit hix (ms := [46]) (b := 46) (k := 1) (by decide) (by decide) (by decide) (e 50 :: l)]
    simp only [tk_hit hix (ms := d09) (b := 50) (k := 3) (by decide) (by decide) (by decide) l]
    rfl
  · show tkP ix (e 46 :: e 51 :: l) = _
    unfold tkP
    rw [tk_hit hix (ms := [46]) (b := 46) (k := 1) (by decide) (by decide) (by decide) (e 51 :: l)]
    simp only [tk_hit hix (ms := d09) (b := 51) (k := 4) (by decide) (by decide) (by decide) l]
    rfl
  · show tkP ix (e 46 :: e 52 :: l) = _
    unfold tkP
    rw [tk_hit hix (ms := [46]) (b := 46) (k := 1) (by decide) (by decide) (by decide) (e 52 :: l)]
    simp only [tk_hit hix (ms := d09) (b := 52) (k := 5) (by decide) (by decide) (by decide) l]
    rfl
  · show tkP ix (e 46 :: e 53 :: l) = _
    unfold tkP
    rw [tk_hit hix (ms := [46]) (b := 46) (k := 1) (by decide) (by decide) (by decide) (e 53 :: l)]
    simp only [tk_hit hix (ms := d09) (b := 53) (k := 6) (by decide) (by decide) (by decide) l]
    rfl
  · show tkP ix (e 46 :: e 54 :: l) = _
    unfold tkP
    rw [tk_hit hix (ms := [46]) (b := 46) (k := 1) (by decide) (by decide) (by decide) (e 54 :: l)]
    simp only [tk_hit hix (ms := d09) (b := 54) (k := 7) (by decide) (by decide) (by decide) l]
    rfl
  · show tkP ix (e 46 :: e 55 :: l) = _
    unfold tkP
    rw [tk_hit hix (ms := [46]) (b := 46) (k := 1) (by decide) (by decide) (by decide) (e 55 :: l)]
    simp only [tk_hit hix (ms := d09) (b := 55) (k := 8) (by decide) (by decide) (by decide) l]
    rfl
  · show tkP ix (e 46 :: e 56 :: l) = _
    unfold tkP
    rw [tk_hit hix (ms := [46]) (b := 46) (k := 1) (by decide) (by decide) (by decide) (e 56 :: l)]
    simp only [tk_hit hix (ms := d09) (b := 56) (k := 9) (by decide) (by decide) (by decide) l]
    rfl
  · show tkP ix (e 46 :: e 57 :: l) = _
    unfold tkP
    rw [tk_hit hix (ms := [46]) (b := 46) (k := 1) (by decide) (by decide) (by decide) (e 57 :: l)]
    simp only [tk_hit hix (ms := d09) (b := 57) (k := 10) (by decide) (by decide) (by decide) l]
    rfl
end
/-- the tails of a specification's text -/
def t9 (t : List UInt8) : List UInt8 := t
def t8 (pr : Int) (t : List UInt8) : List UInt8 := (if pr = -1 then [] else 46 :: dec2 pr.toNat) ++ t
def t7 (gr pr : Int) (t : List UInt8) : List UInt8 := mk gr2 gr ++ t8 pr t
def t6 (wi gr pr : Int) (t : List UInt8) : List UInt8 := (if 0 < wi then dec2 wi.toNat else []) ++ t7 gr pr t
def t5 (ze : Bool) (wi gr pr : Int) (t : List UInt8) : List UInt8 := (if ze then [48] else []) ++ t6 wi gr pr t
def t4 (alt ze : Bool) (wi gr pr : Int) (t : List UInt8) : List UInt8 := (if alt then [35] else []) ++ t5 ze wi gr pr t
def t3 (si : Int) (alt ze : Bool) (wi gr pr : Int) (t : List UInt8) : List UInt8 := mk si3 si ++ t4 alt ze wi gr pr t
def t2 (al si : Int) (alt ze : Bool) (wi gr pr : Int) (t : List UInt8) : List UInt8 := mk al4 al ++ t3 si alt ze wi gr pr t
theorem spL_t2 (f : List UInt8) (al si : Int) (alt ze : Bool) (wi gr pr : Int) (t : List UInt8) : spL f al si alt ze wi gr pr t = f ++ t2 al si alt ze wi gr pr t := rfl
def S8 : List UInt8 := 46 :: types
def S7 : List UInt8 := gr2 ++ S8
def S6 : List UInt8 := d19 ++ S7
def S5 : List UInt8 := 48 :: S6
def S4 : List UInt8 := 35 :: S5
def S3 : List UInt8 := si3 ++ S4
def S2 : List UInt8 := al4 ++ S3
theorem types_in : ∀ b : UInt8, 0 ≤ Lib.indexByte types b → types.contains b = true := by
  intro b h
  cases hc : types.contains b
  · have : Lib.indexByte types b = -1 := by
      have hn : ¬ b ∈ types := by simpa using hc
      revert hn
      generalize types = ts
      intro hn
      induction ts with
      | nil => rfl
      | cons c r ih =>
        have h1 : ¬ c = b := fun e => hn (by rw [e]; simp)
        rw [Lib.indexByte, ih (fun m => hn (by simp [m]))]
        simp [h1]
    omega
  · rfl
theorem hd_mk {S l : List UInt8} {k : Int} (hs : (l.all fun b => S.contains b) = true) : hdIn S (mk l k) = true := by
  unfold mk
  split
  · rfl
  · cases hd : l.drop (k.toNat - 1) with
    | nil => rfl
    | cons b r =>
      have : b ∈ l := List.mem_of_mem_drop (i := k.toNat - 1) (by rw [hd]; simp)
      exact List.all_eq_true.1 hs b this
theorem all_mk {p : UInt8 → Bool} {l : List UInt8} {k : Int} (hs : l.all p = true) : (mk l k).all p = true := by
  rw [List.all_eq_true] at hs ⊢
  intro b hb
  unfold mk at hb
  split at hb
  · cases hb
  · exact hs b (List.mem_of_mem_drop (List.mem_of_mem_take hb))
structure TLs (al si : Int) (alt ze : Bool) (wi gr pr : Int) (t : List UInt8) : Prop where
  h9 : hdIn types t = true
  h8 : hdIn S8 (t8 pr t) = true
  h7 : hdIn S7 (t7 gr pr t) = true
  h6 : hdIn S6 (t6 wi gr pr t) = true
  h5 : hdIn S5 (t5 ze wi gr pr t) = true
  h4 : hdIn S4 (t4 alt ze wi gr pr t) = true
  h3 : hdIn S3 (t3 si alt ze wi gr pr t) = true
  a3 : ((t3 si alt ze wi gr pr t).all fun b => decide (Lib.indexByte al4 b < 0) && decide (b.toNat < 128)) = true
theorem dec2_w {k : Nat} (h : k < 31) (h0 : 0 < k) : hdIn S6 (dec2 k) = true := by
  have : ((List.range 31).all fun k => k == 0 || hdIn S6 (dec2 k)) = true := by decide +kernel
  have h2 := List.all_eq_true.1 this k (List.mem_range.2 h)
  simp only [Bool.or_eq_true, beq_iff_eq] at h2
  exact h2.resolve_left (by omega)
theorem dec2_a {k : Nat} (h : k < 31) : ((dec2 k).all fun b => decide (Lib.indexByte al4 b < 0) && decide (b.toNat < 128)) = true := by
  have : ((List.range 31).all fun k => (dec2 k).all fun b => decide (Lib.indexByte al4 b < 0) && decide (b.toNat < 128)) = true := by decide +kernel
  exact List.all_eq_true.1 this k (List.mem_range.2 h)
theorem okType_in {t : ByteArray} (h : okType t = true) : hdIn types t.data.toList = true ∧ t.data.toList.length ≤ 1 := by
  rcases okType_cases h with rfl | ⟨b, rfl⟩
  · exact ⟨rfl, by decide⟩
  · have h1 : decide (0 ≤ Lib.indexByte types b) = true := h
    exact ⟨types_in b (by simpa using h1), Nat.le_refl 1⟩
theorem tls {f : ByteArray} {al si : Int} {wi gr pr : Int} {t : ByteArray} (alt ze : Bool) (V : VS f al si wi gr pr t) : TLs al si alt ze wi gr pr t.data.toList := by
  obtain ⟨h9, hl⟩ := okType_in V.type
  have := V.al0; have := V.al4; have := V.si0; have := V.si3; have := V.gr0; have := V.gr2; have := V.wi0; have := V.wi30; have := V.pr0; have := V.pr9
  have a9 : (t.data.toList.all fun b => decide (Lib.indexByte al4 b < 0) && decide (b.toNat < 128)) = true := by
    rw [List.all_eq_true]
    intro b hb
    have hc : types.contains b = true := by
      revert hl hb h9
      generalize t.data.toList = l
      intro h9 hl hb
      match l, hl with
      | [c], _ => rw [List.mem_singleton] at hb; rw [hb]; exact h9
    have : (types.all fun b => decide (Lib.indexByte al4 b < 0) && decide (b.toNat < 128)) = true := by decide +kernel
    exact List.all_eq_true.1 this b (by simpa using hc)
  generalize t.data.toList = T at *
  have h8 : hdIn S8 (t8 pr T) = true := by
    unfold t8
    refine hdIn_app ?_ (hdIn_mono h9 (by decide +kernel))
    split
    · rfl
    · rfl
  have h7 : hdIn S7 (t7 gr pr T) = true := hdIn_app (hd_mk (by decide +kernel)) (hdIn_mono h8 (by decide +kernel))
  have h6 : hdIn S6 (t6 wi gr pr T) = true := by
    unfold t6
    refine hdIn_app ?_ (hdIn_mono h7 (by decide +kernel))
    split
    · exact dec2_w (by omega) (by omega)
    · rfl
  have h5 : hdIn S5 (t5 ze wi gr pr T) = true := by
    unfold t5
    refine hdIn_app ?_ (hdIn_mono h6 (by decide +kernel))
    cases ze <;> rfl
  have h4 : hdIn S4 (t4 alt ze wi gr pr T) = true := by
    unfold t4
    refine hdIn_app ?_ (hdIn_mono h5 (by decide +kernel))
    cases alt <;> rfl
  have h3 : hdIn S3 (t3 si alt ze wi gr pr T) = true := hdIn_app (hd_mk (by decide +kernel)) (hdIn_mono h4 (by decide +kernel))
  refine ⟨h9, h8, h7, h6, h5, h4, h3, ?_⟩
  unfold t3 t4 t5 t6 t7 t8
  simp only [List.all_append, Bool.and_eq_true]
  refine ⟨all_mk (by decide +kernel), ?_, ?_, ?_, all_mk (by decide +kernel), ?_, a9⟩
  · cases alt <;> decide +kernel
  · cases ze <;> decide +kernel
  · split
    · exact dec2_a (by omega)
    · rfl
  · split
    · rfl
    · rw [List.all_cons, dec2_a (by omega)]; decide +kernel
/-- what the program reads, and what is left of it -/
structure PS (α : Type) where
  f : Option α
  al : Int
  si : Int
  alt : Bool
  ze : Bool
  wi : Int
  gr : Int
  pr : Int
  ty : Int
section
variable {α : Type} (ix : List UInt8 → α → Int)
def psG (l : List α) : PS α :=
  let f := tkF ix l
  let a := tk ix al4 f.2
  let s := tk ix si3 a.2
  let x := tk ix [35] s.2
  let z := tk ix [48] x.2
  let w := tkW ix z.2
  let g := tk ix gr2 w.2
  let p := tkP ix g.2
  let t := tk ix types p.2
  ⟨f.1, a.1, s.1, decide (0 < x.1), decide (0 < z.1), w.1, g.1, p.1, t.1⟩
end
section
variable {α : Type} {ix : List UInt8 → α → Int} {e : UInt8 → α} (hix : ∀ ms b, b.toNat < 128 → ix ms (e b) = Lib.indexByte ms b)
include hix
theorem psG_print {f : ByteArray} {al si : Int} {wi gr pr : Int} {t : ByteArray} (alt ze : Bool) (V : VS f al si wi gr pr t) :
    psG ix ((spL f.data.toList al si alt ze wi gr pr t.data.toList).map e) = ⟨f.data.toList.head?.map e, al, si, alt, ze, wi, gr, pr, (tk ix types (t.data.toList.map e)).1⟩ := by
  have H := tls alt ze V
  have e3 := tk_no hix H.h3 (ms := al4) (by decide +kernel)
  have e4 := tk_no hix H.h4 (ms := si3) (by decide +kernel)
  have e5 := tk_no hix H.h5 (ms := [35]) (by decide +kernel)
  have e6 := tk_no hix H.h6 (ms := [48]) (by decide +kernel)
  have e7 := tk_no hix H.h7 (ms := d09) (by decide +kernel)
  have e7' := tk_no hix H.h7 (ms := d19) (by decide +kernel)
  have e8 := tk_no hix H.h8 (ms := gr2) (by decide +kernel)
  have e9 := tk_no hix H.h9 (ms := [46]) (by decide +kernel)
  have q2 := tk_al hix V.al0 V.al4 e3
  have q3 := tk_si hix V.si0 V.si3 e4
  have q4 := tk_b hix 35 (by decide) alt e5
  have q5 := tk_b hix 48 (by decide) ze e6
  have q6 := tkW_dec hix V.wi0 V.wi30 e7 e7'
  have q7 := tk_gr hix V.gr0 V.gr2 e8
  have q8 := tkP_dec hix V.pr0 V.pr9 e9
  have hF : tkF ix ((spL f.data.toList al si alt ze wi gr pr t.data.toList).map e) = (f.data.toList.head?.map e, (t2 al si alt ze wi gr pr t.data.toList).map e) := by
    rw [spL_t2]
    have ha3 := H.a3
    rcases okFill_cases V.fill with rfl | ⟨b, rfl⟩
    · show tkF ix ((t2 al si alt ze wi gr pr t.data.toList).map e) = (none, _)
      have key : ∀ c m r, t2 al si alt ze wi gr pr t.data.toList = c :: m :: r → Lib.indexByte al4 m < 0 ∧ m.toNat < 128 := by
        intro c m r h
        have hm : m ∈ t3 si alt ze wi gr pr t.data.toList := by
          unfold t2 at h
          have hl := mk_len al4 al
          revert h hl
          generalize mk al4 al = M
          intro h hl
          match M, hl with
          | [], _ => rw [List.nil_append] at h; rw [h]; simp
          | [x], _ => rw [List.cons_append, List.nil_append] at h; rw [(List.cons.inj h).2]; simp
        have := List.all_eq_true.1 ha3 m hm
        simpa using this
      generalize t2 al si alt ze wi gr pr t.data.toList = L at key ⊢
      match L, key with
      | [], _ => rfl
      | [c], _ => rfl
      | c :: m :: r, key =>
        obtain ⟨k1, k2⟩ := key c m r rfl
        show (if 0 ≤ ix al4 (e m) then _ else _) = _
        rw [hix al4 m k2, if_neg (by omega)]
        rfl
    · have hal : ¬ al = 0 := by
        intro h0
        have h1 := V.fill
        subst h0
        revert h1
        show (!((0 : Int) == 0) && okByte b && !(b == 123) && !(b == 125)) = true → False
        simp
      have := V.al0; have := V.al4
      have hk : al = 1 ∨ al = 2 ∨ al = 3 ∨ al = 4 := by omega
      unfold t2
      rcases hk with rfl | rfl | rfl | rfl
      all_goals
        show (if 0 ≤ ix al4 (e _) then _ else _) = _
        rw [hix al4 _ (by decide), if_pos (by decide)]
        rfl
  unfold psG
  simp only [hF]
  unfold t2
  simp only [List.map_append, q2]
  unfold t3
  simp only [List.map_append, q3]
  unfold t4
  simp only [List.map_append, q4]
  unfold t5
  simp only [List.map_append, q5]
  unfold t6
  simp only [List.map_append, q6]
  unfold t7
  simp only [List.map_append, q7]
  unfold t8
  simp only [List.map_append, q8]
  cases alt <;> cases ze <;> rfl
end
end Go.Proofs.YtebheehjhnaklaaGreatDoor
namespace Go.Proofs.YtebheehjhnaklaaGreatDoor
open Go Go.RowKit
/-- the place of a rune among marks -/
def ixI (ms : List UInt8) (r : Int) : Int := if 0 ≤ r ∧ r < 128 then Lib.indexByte ms r.toNat.toUInt8 else -1
set_option maxHeartbeats 2000000 in
set_option maxRecDepth 1000000 in
theorem IndexRune_err (m : ByteArray) (hm : ∀ b ∈ m.data.toList, b.toNat < 128) (w : World) :
    Calls Tryz.prog 173 #[.string m, .int .i32 65533] w fun e w' => e = .returned (.int .i64 (-1)) ∧ Below w.heap.size w w' := by
  have HA := Lib.hid hm
  clear hm
  go_enter Tryz.func173, Tryz.ntmps173
  go_wp2
  go_loopg [5, 6] m.size (fun g _ _ wx => ∃ i : Nat, i + g = m.size ∧ wx = w.iter m i)
  case atStart => exact ⟨0, by omega, rfl⟩
  case round =>
    obtain ⟨i, hig, rfl⟩ := hrel
    cases gk with
    | zero =>
      obtain rfl : i = m.size := by omega
      have hnx := run_next_end (P := Tryz.prog) w m m.size
      go_wp2
      go_ret
      exact ⟨rfl, (Below.refl _ _).alloc (Nat.le_refl _) _⟩
    | succ g =>
      have hi : i < m.size := by omega
      obtain ⟨x, hx⟩ : ∃ x : UInt8, m[i]'hi = x := ⟨_, rfl⟩
      have hxl : m.data.toList[i]? = some x := by rw [← hx]; exact Lib.data_getElem? m i hi
      have hx128 : x.toNat < 128 := HA.out x (List.mem_of_getElem? hxl)
      have hnx := fun ty => run_next_ascii (P := Tryz.prog) w m i ty hi (by rw [hx]; exact hx128)
      rw [hx] at hnx
      clear hxl hx
      have hne : ((x.toNat : Int) == 65533) = false := by simp; omega
      go_wp2
      go_roundg g
      case measure => omega
      case rel => exact ⟨i + 1, by omega, rfl⟩
set_option maxHeartbeats 2000000 in
set_option maxRecDepth 1000000 in
theorem IndexRune_bad (m : ByteArray) (r : Int) (h0 : 128 ≤ r) (h1 : ¬ r = 65533) (hv : Utf8.valid r = false) (w : World) :
    Calls Tryz.prog 173 #[.string m, .int .i32 r] w fun e w' => e = .returned (.int .i64 (-1)) ∧ Below w.heap.size w w' := by
  have k1 : ∀ W, Calls Tryz.prog 227 #[.int .i32 r] W fun e w' => e = .returned (.bool false) ∧ W = w' := fun W => by
    refine (Tryz.utf8_ValidRune r W).mono ?_
    rintro e w1 ⟨rfl, rfl⟩
    rw [show Lib.validRune r = Utf8.valid r from (Go.validRune_eq r).symm, hv]
    exact ⟨rfl, rfl⟩
  have K1 := Lib.hid k1
  clear k1 hv
  have i1 : ¬ r < 128 := by omega
  have i2 : 0 ≤ r := by omega
  have i3 : (r == 65533) = false := by simpa using h1
  clear h1
  go_enter Tryz.func173, Tryz.ntmps173
  go_wp2_with (go_at_call 227; (with_reducible refine Calls.mono (K1.out _) ?_); rintro e w1 ⟨rfl, rfl⟩)
  go_ret
  exact ⟨rfl, Below.refl _ _⟩
theorem byte_at {s : ByteArray} {k : Nat} (h : k < s.size) : s[k] ∈ s.data.toList := List.mem_of_getElem? (Lib.data_getElem? s k h)
theorem idx_high {l : List UInt8} (hl : ∀ b ∈ l, b.toNat < 128) {c : UInt8} (hc : 128 ≤ c.toNat) : Lib.indexByte l c = -1 := by
  induction l with
  | nil => rfl
  | cons a r ih =>
    have ha := hl a (by simp)
    have hn : ¬ a = c := fun e => by rw [e] at ha; omega
    rw [Lib.indexByte, ih (fun b hb => hl b (by simp [hb]))]
    simp [hn]
set_option maxHeartbeats 4000000 in
set_option maxRecDepth 1000000 in
theorem IndexRune_far (m E : ByteArray) (L : Nat) (r : Int) (c : UInt8) (h0 : 128 ≤ r) (h1 : ¬ r = 65533) (hv : Utf8.valid r = true) (hm : ∀ b ∈ m.data.toList, b.toNat < 128) (hE : Utf8.encode r = E) (hL : E.size = L + 1) (hL1 : 1 ≤ L) (hL4 : L ≤ 3) (hcE : ∀ h : L < E.size, E[L]'h = c) (hc : 128 ≤ c.toNat) (w : World) :
    Calls Tryz.prog 173 #[.string m, .int .i32 r] w fun e w' => e = .returned (.int .i64 (-1)) ∧ Below w.heap.size w w' := by
  have k1 : ∀ W, Calls Tryz.prog 227 #[.int .i32 r] W fun e w' => e = .returned (.bool true) ∧ W = w' := fun W => by
    refine (Tryz.utf8_ValidRune r W).mono ?_
    rintro e w1 ⟨rfl, rfl⟩
    rw [show Lib.validRune r = Utf8.valid r from (Go.validRune_eq r).symm, hv]
    exact ⟨rfl, rfl⟩
  have k3 : ∀ W, Calls Tryz.prog 226 #[.string (m.extract (L + 1) m.size), .int .u8 c.toNat] W fun e w' => e = .returned (.int .i64 (-1)) ∧ Below W.heap.size W w' := fun W => by
    refine (Tryz.strings_IndexByte _ _ W).mono ?_
    rintro e w1 ⟨rfl, rfl⟩
    refine ⟨?_, Below.refl _ _⟩
    rw [show (((c.toNat : Nat) : Int)).toNat.toUInt8 = c by simp, idx_high (fun b hb => hm b (mem_extract hb)) hc]
  have e1 : (E.size : Int) - 1 = L := by omega
  have i1 : ¬ r < 128 := by omega
  have i2 : 0 ≤ r := by omega
  have i3 : (r == 65533) = false := by simpa using h1
  have i5 : L < E.size := by omega
  have i6 : (L : Int) < E.size := by omega
  have K1 := Lib.hid k1; have K3 := Lib.hid k3
  by_cases hs : L < m.size
  · obtain ⟨x, hx⟩ : ∃ x : UInt8, m[L]'hs = x := ⟨_, rfl⟩
    have hx1 : x.toNat < 128 := hm x (by rw [← hx]; exact byte_at hs)
    have hne : ((x.toNat : Int) == (c.toNat : Int)) = false := by simp; omega
    have hne2 : ((x.toNat : Int) != (c.toNat : Int)) = true := by simp; omega
    clear k1 k3 hm hv hL hc hx1
    have i4 : (L : Int) < m.size := by omega
    have i7 : (L : Int) + 1 ≤ m.size := by omega
    clear h1
    go_enter Tryz.func173, Tryz.ntmps173
    go_wp2_with (go_at_call 227; (with_reducible refine Calls.mono (K1.out _) ?_); rintro e w1 ⟨rfl, rfl⟩)
    go_step3
    go_wp2
    go_loopg [9, 10] 0 (fun _ s9 s10 wr => w = wr ∧ s9 = .int .i64 L ∧ s10 = .int .i64 0)
    case atStart => exact ⟨rfl, rfl, rfl⟩
    case round =>
      obtain ⟨rfl, rfl, rfl⟩ := hrel
      go_wp2
      go_step3
      go_wp2
      have hB := Below.refl w.heap.size w
      refine wp_region_since (by kernel_rfl) (by kernel_rfl) ?_
      repeat (quiet_step (fail))
      refine wpQuiet_nil ?_
      intro w_ hw_
      obtain ⟨⟨w1, hb⟩, hw2⟩ := hw_
      have hw3 : w1 = w_ := hw2.symm
      clear hw2
      subst hw3
      replace hB := hB.trans (hb.mono hB.size)
      have hz := hb.size
      go_wp2
      have v1 : IntKind.i64.wrap ((L : Int) + 1) = (L : Int) + 1 := wrap_small _ (by omega) (by omega)
      have v2 : ((L : Int) + 1).toNat = L + 1 := by omega
      have v3 : (0 : Int) ≤ (L : Int) + 1 := by omega
      refine wp_region_since (by kernel_rfl) (by kernel_rfl) ?_
      repeat (quiet_step ((go_at_call 226; with_reducible exact Calls.since_of (K3.out _))))
      refine wpQuiet_nil ?_
      intro w_ hw_
      obtain ⟨⟨w1, hb⟩, hw2⟩ := hw_
      have hw3 : w1 = w_ := hw2.symm
      clear hw2
      subst hw3
      replace hB := hB.trans (hb.mono hB.size)
      have hz := hb.size
      go_wp2
      rw [Exit.noGoto_ret]
      go_wp2
      try rw [Exit.noGoto_ret]
      go_ret
      exact ⟨rfl, hB⟩
  · clear k1 k3 hm hv hL hc
    have i4 : ¬ (L : Int) < m.size := by omega
    clear h1
    go_enter Tryz.func173, Tryz.ntmps173
    go_wp2_with (go_at_call 227; (with_reducible refine Calls.mono (K1.out _) ?_); rintro e w1 ⟨rfl, rfl⟩)
    go_step3
    go_wp2
    go_loopg [9, 10] 0 (fun _ s9 s10 wr => w = wr ∧ s9 = .int .i64 L ∧ s10 = .int .i64 0)
    case atStart => exact ⟨rfl, rfl, rfl⟩
    case round =>
      obtain ⟨rfl, rfl, rfl⟩ := hrel
      go_wp2
      rw [Exit.noGoto_ret]
      go_ret
      exact ⟨rfl, Below.refl _ _⟩
theorem IndexRune_any (m : ByteArray) (hm : ∀ b ∈ m.data.toList, b.toNat < 128) (r : Int) (h0 : 0 ≤ r) (w : World) :
    Calls Tryz.prog 173 #[.string m, .int .i32 r] w fun e w' => e = .returned (.int .i64 (ixI m.data.toList r)) ∧ Below w.heap.size w w' := by
  by_cases h1 : r < 128
  · refine (Tryz.strings_IndexRune_ascii m r w h0 h1).mono ?_
    rintro e w1 ⟨rfl, rfl⟩
    refine ⟨?_, Below.refl _ _⟩
    unfold ixI
    rw [if_pos ⟨h0, h1⟩]
  · rw [show ixI m.data.toList r = -1 by unfold ixI; rw [if_neg (by omega)]]
    by_cases h2 : r = 65533
    · subst h2
      exact IndexRune_err m hm w
    · cases hv : Utf8.valid r
      · exact IndexRune_bad m r (by omega) h2 hv w
      · obtain ⟨f1, f2, f3⟩ := encode_facts r hv (by omega)
        obtain ⟨L, hL⟩ : ∃ L, (Utf8.encode r).size = L + 1 := ⟨(Utf8.encode r).size - 1, by omega⟩
        have hlt : L < (Utf8.encode r).size := by omega
        refine IndexRune_far m (Utf8.encode r) L r ((Utf8.encode r)[L]'hlt) (by omega) h2 hv hm rfl hL (by omega) (by omega) (fun _ => rfl) ?_ w
        have := f3 (by omega)
        simpa [hL] using this
set_option maxHeartbeats 2000000 in
set_option maxRecDepth 1000000 in
theorem ContainsRune_any (m : ByteArray) (hm : ∀ b ∈ m.data.toList, b.toNat < 128) (r : Int) (h0 : 0 ≤ r) (w : World) :
    Calls Tryz.prog 180 #[.string m, .int .i32 r] w fun e w' => e = .returned (.bool (decide (0 ≤ ixI m.data.toList r))) ∧ Below w.heap.size w w' := by
  have k1 := fun W => IndexRune_any m hm r h0 W
  generalize ixI m.data.toList r = k at *
  have K1 := Lib.hid k1
  clear k1 hm
  go_enter Tryz.func180, Tryz.ntmps180
  go_wp2_with (go_at_call 173; (with_reducible refine Calls.mono (K1.out _) ?_); rintro e w1 ⟨rfl, hb⟩)
  go_ret
  exact ⟨rfl, hb⟩
end Go.Proofs.YtebheehjhnaklaaGreatDoor
