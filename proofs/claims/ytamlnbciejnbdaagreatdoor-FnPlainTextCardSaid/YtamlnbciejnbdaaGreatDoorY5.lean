import Derived.Test.YtamlnbciejnbdaaGreatDoorShelf
import Derived.Test.YtamlnbciejnbdaaGreatDoorY3
import Derived.Laws.IdiomStrings
namespace Go.Proofs.YtamlnbciejnbdaaGreatDoor
open Go.RowKit

/-- how far the groups have come: p bytes are in ls, e is the end of the next one -/
structure GSt (l : List UInt8) (n : Nat) (sep : List UInt8) (p e : Nat) (ls : List (List UInt8)) : Prop where
  flat : ls.flatten = l.take p
  le : p ≤ l.length
  st : (p = 0 ∧ ls = [] ∧ e = (l.length - 1) % n + 1) ∨ (0 < p ∧ ls ≠ [] ∧ e = p + n ∧ (l.length - p) % n = 0 ∧ Lib.join ls sep ++ grpT n sep (l.drop p) = grp n sep l)
theorem join_snoc (sep g : List UInt8) {ls : List (List UInt8)} (h : ls ≠ []) : Lib.join (ls ++ [g]) sep = Lib.join ls sep ++ (sep ++ g) := by
  match ls, h with
  | x :: r, _ =>
    rw [List.cons_append, Lib.join_cons, Lib.join_cons]
    simp [Lib.joinTail, List.append_assoc]
theorem GSt.init (l : List UInt8) (n : Nat) (sep : List UInt8) : GSt l n sep 0 ((l.length - 1) % n + 1) [] := ⟨by simp, by omega, .inl ⟨rfl, rfl, rfl⟩⟩
theorem GSt.next {l : List UInt8} {n : Nat} {sep : List UInt8} {p e : Nat} {ls : List (List UInt8)} (h : GSt l n sep p e ls) (hn : 1 ≤ n) (hp : p < l.length) :
    p < e ∧ e ≤ l.length ∧ GSt l n sep e (e + n) (ls ++ [(l.drop p).take (e - p)]) := by
  obtain ⟨hf, hle, hs⟩ := h
  have flat : ∀ e', p < e' → e' ≤ l.length → (ls ++ [(l.drop p).take (e' - p)]).flatten = l.take e' := by
    intro e' h1 h2
    rw [List.flatten_append, hf]
    simp only [List.flatten_cons, List.flatten_nil, List.append_nil]
    rw [show e' = p + (e' - p) by omega, List.take_add, show p + (e' - p) - p = e' - p by omega]
  have ld : (l.drop p).length = l.length - p := by simp
  rcases hs with ⟨rfl, rfl, rfl⟩ | ⟨h0, hne, rfl, hm, hj⟩
  · have hr : (l.length - 1) % n + 1 ≤ l.length := by
      have := Nat.mod_le (l.length - 1) n
      omega
    refine ⟨by omega, hr, flat _ (by omega) hr, hr, .inr ⟨by omega, by simp, rfl, ?_, ?_⟩⟩
    · have hd := Nat.div_add_mod (l.length - 1) n
      have : l.length - ((l.length - 1) % n + 1) = n * ((l.length - 1) / n) := by omega
      rw [this, Nat.mul_mod_right]
    · have hl : l.take ((l.length - 1) % n + 1) ++ l.drop ((l.length - 1) % n + 1) = l := List.take_append_drop _ _
      have hd := Nat.div_add_mod (l.length - 1) n
      have e1 : (l.take ((l.length - 1) % n + 1)).length = (l.length - 1) % n + 1 := by rw [List.length_take]; omega
      have e2 : (l.drop ((l.length - 1) % n + 1)).length = n * ((l.length - 1) / n) := by rw [List.length_drop]; omega
      have g := grp_head n sep (g := l.take ((l.length - 1) % n + 1)) (c := l.drop ((l.length - 1) % n + 1)) hn (by rw [e1, e2]; congr 2; omega) (by rw [e2, Nat.mul_mod_right])
      rw [hl] at g
      rw [g, List.nil_append, Lib.join_one]
      simp
  · have hk : p + n ≤ l.length := by
      have hd := Nat.div_add_mod (l.length - p) n
      rw [hm] at hd
      have : 1 ≤ (l.length - p) / n := by
        rcases Nat.eq_zero_or_pos ((l.length - p) / n) with h | h
        · rw [h] at hd; omega
        · exact h
      have := Nat.mul_le_mul (Nat.le_refl n) this
      omega
    refine ⟨by omega, hk, flat _ (by omega) hk, hk, .inr ⟨by omega, by simp, rfl, ?_, ?_⟩⟩
    · have : l.length - p = (l.length - (p + n)) + n := by omega
      rw [this, Nat.add_mod_right] at hm
      exact hm
    · rw [join_snoc _ _ hne, show p + n - p = n by omega]
      have hl : (l.drop p).take n ++ l.drop (p + n) = l.drop p := by rw [← List.drop_drop]; exact List.take_append_drop _ _
      have e1 : ((l.drop p).take n).length = n := by rw [List.length_take, ld]; omega
      have e2 : (l.drop (p + n)).length % n = 0 := by
        rw [List.length_drop]
        have : l.length - p = (l.length - (p + n)) + n := by omega
        rw [this, Nat.add_mod_right] at hm
        exact hm
      have g := grpT_full n sep hn e1 e2
      rw [hl] at g
      rw [← hj, g]
      simp [List.append_assoc]
theorem GSt.done {l : List UInt8} {n : Nat} {sep : List UInt8} {p e : Nat} {ls : List (List UInt8)} (h : GSt l n sep p e ls) (h1 : 1 ≤ l.length) (hp : l.length ≤ p) : ls ≠ [] ∧ Lib.join ls sep = grp n sep l ∧ ls.flatten = l := by
  have hle := h.le
  rcases h.st with ⟨rfl, _, _⟩ | ⟨_, h2, _, _, hj⟩
  · omega
  · refine ⟨h2, ?_, ?_⟩
    · rw [List.drop_eq_nil_of_le hp] at hj
      simpa [grpT] using hj
    · rw [h.flat]; exact List.take_of_length_le hp
/-- the groups as slices of the block D -/
def vsOf (D : Nat) : Nat → List (List UInt8) → List Value
  | _, [] => []
  | off, g :: gs => .slice (some ⟨D, off, none⟩) g.length g.length :: vsOf D (off + g.length) gs
theorem vsOf_length (D : Nat) : ∀ (off : Nat) (ls : List (List UInt8)), (vsOf D off ls).length = ls.length
  | _, [] => rfl
  | off, g :: gs => by simp [vsOf, vsOf_length D _ gs]
theorem vsOf_snoc (D : Nat) (g : List UInt8) : ∀ (off : Nat) (ls : List (List UInt8)), vsOf D off (ls ++ [g]) = vsOf D off ls ++ [.slice (some ⟨D, off + ls.flatten.length, none⟩) g.length g.length]
  | off, [] => by simp [vsOf]
  | off, x :: gs => by
    simp only [List.cons_append, vsOf, vsOf_snoc D g _ gs, List.flatten_cons, List.length_append]
    rw [Nat.add_assoc]
theorem add_none (D off i : Nat) : (⟨D, off, none⟩ : Addr).add i = ⟨D, off + i, none⟩ := by unfold Addr.add; split <;> simp_all
theorem vsOf_holds {w : World} {D : Nat} : ∀ (off : Nat) (ls : List (List UInt8)), (∀ (j : Nat) x, ls.flatten[j]? = some x → w.cell? ⟨D, off + j, none⟩ = some (.int .u8 (x.toNat : Int))) →
    ∀ (i : Nat) v g, (vsOf D off ls)[i]? = some v → ls[i]? = some g → Lib.HoldsBytes w v g
  | _, [], _, i, v, g, h, _ => by simp [vsOf] at h
  | off, x :: gs, hc, i, v, g, hv, hg => by
    cases i with
    | zero =>
      simp only [vsOf, List.getElem?_cons_zero, Option.some.injEq] at hv hg
      subst hv hg
      refine ⟨some ⟨D, off, none⟩, _, rfl, by simp, ?_⟩
      intro a ha i y hy
      simp only [Option.some.injEq] at ha
      subst ha
      rw [add_none]
      refine hc i y ?_
      simp only [List.flatten_cons]
      rw [List.getElem?_append_left (List.getElem?_eq_some_iff.1 hy).1]
      exact hy
    | succ i =>
      simp only [vsOf, List.getElem?_cons_succ] at hv hg
      refine vsOf_holds (off + x.length) gs (fun j y hy => ?_) i v g hv hg
      rw [Nat.add_assoc]
      refine hc (x.length + j) y ?_
      simp only [List.flatten_cons]
      rw [List.getElem?_append_right (by omega), show x.length + j - x.length = j by omega]
      exact hy
theorem lens_flatten : ∀ (ls : List (List UInt8)), Lib.lens ls = ls.flatten.length
  | [] => rfl
  | g :: gs => by rw [Lib.lens_cons, lens_flatten gs]; simp
end Go.Proofs.YtamlnbciejnbdaaGreatDoor
