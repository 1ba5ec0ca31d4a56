import Derived.Test.YtebheehjhnaklaaGreatDoorE7
import Derived.Test.YtebheehjhnaklaaGreatDoorTL
import Derived.Test.YtebheehjhnaklaaGreatDoorY1
import Derived.Test.YtebheehjhnaklaaGreatDoorPl2
import Derived.Test.YtebheehjhnaklaaGreatDoorN2
import Derived.Lib.IndexAny
import Derived.Lib.AtoiAll
import Derived.Lib.IndexMore
namespace Go.Proofs.YtebheehjhnaklaaGreatDoor
open Go Go.RowKit
/-- the text ahead of the first e or E, and what follows it -/
def eP : List UInt8 → Option (List UInt8 × List UInt8)
  | [] => none
  | b :: r => if b = 101 ∨ b = 69 then some ([], r) else (eP r).map fun p => (b :: p.1, p.2)
theorem eP_any : ∀ l : List UInt8, (eP l = none ∧ Lib.indexAny l [101, 69] = -1) ∨ ∃ k : Nat, k < l.length ∧ Lib.indexAny l [101, 69] = k ∧ eP l = some (l.take k, l.drop (k + 1))
  | [] => .inl ⟨rfl, rfl⟩
  | b :: r => by
    by_cases hb : b = 101 ∨ b = 69
    · refine .inr ⟨0, by simp, ?_, ?_⟩
      · rw [Lib.indexAny, if_pos (by simpa using hb)]; rfl
      · rw [eP, if_pos hb]; rfl
    · have hn : ([101, 69] : List UInt8).contains b = false := by simpa using hb
      rcases eP_any r with ⟨h1, h2⟩ | ⟨k, h0, h1, h2⟩
      · refine .inl ⟨by rw [eP, if_neg hb, h1]; rfl, ?_⟩
        rw [Lib.indexAny, hn, h2]
        rfl
      · refine .inr ⟨k + 1, by simp; omega, ?_, ?_⟩
        · rw [Lib.indexAny, hn, h1, if_neg (by simp), if_neg (fun e => by have := beq_iff_eq.1 e; omega)]
          push_cast
          rfl
        · rw [eP, if_neg hb, h2]; rfl
theorem eP_mem {l a r : List UInt8} (h : eP l = some (a, r)) : (∀ x ∈ a, x ≠ 101 ∧ x ≠ 69) ∧ (∃ b, (b = 101 ∨ b = 69) ∧ l = a ++ b :: r) := by
  induction l generalizing a with
  | nil => cases h
  | cons b l ih =>
    rw [eP] at h
    split at h
    · rename_i hb
      obtain ⟨rfl, rfl⟩ := by simpa using h
      exact ⟨(fun x hx => by cases hx), b, hb, rfl⟩
    · rename_i hb
      cases he : eP l with
      | none => rw [he] at h; cases h
      | some p =>
        obtain ⟨a', r'⟩ := p
        rw [he] at h
        simp only [Option.map_some, Option.some.injEq, Prod.mk.injEq] at h
        obtain ⟨rfl, rfl⟩ := h
        obtain ⟨g1, c, g2, g3⟩ := ih he
        refine ⟨fun x hx => ?_, c, g2, by rw [g3]; rfl⟩
        rcases List.mem_cons.1 hx with rfl | hx
        · exact ⟨fun e => hb (.inl e), fun e => hb (.inr e)⟩
        · exact g1 x hx
theorem eP_none {l : List UInt8} (h : eP l = none) : ∀ x ∈ l, x ≠ 101 ∧ x ≠ 69 := by
  induction l with
  | nil => exact fun x hx => by cases hx
  | cons b l ih =>
    rw [eP] at h
    split at h
    · cases h
    · rename_i hb
      cases he : eP l with
      | some p => rw [he] at h; cases h
      | none =>
        intro x hx
        rcases List.mem_cons.1 hx with rfl | hx
        · exact ⟨fun e => hb (.inl e), fun e => hb (.inr e)⟩
        · exact ih he x hx
theorem dg_small {b : UInt8} (h : ¬ dg b.toNat ≥ 10) : 48 ≤ b.toNat ∧ b.toNat ≤ 57 ∧ dg b.toNat = (b.toNat : Int) - 48 := by
  unfold dg at h ⊢
  split at h
  · rename_i h1
    rw [if_pos h1]
    omega
  · split at h
    · omega
    · split at h
      · omega
      · omega
theorem dg_big {b : UInt8} (h : dg b.toNat ≥ 10) : ¬ (48 ≤ b.toNat ∧ b.toNat ≤ 57) := by
  intro hh
  unfold dg at h
  rw [if_pos (by omega)] at h
  omega
theorem pu_ok : ∀ (m : List UInt8) (acc : Nat), acc ≤ 999999999999 → 0 ≤ vRun 10 m acc → Lib.parseUint10 acc m = .ok (vRun 10 m acc).toNat
  | [], acc, _, _ => by
    show Lib.NumEnd.ok acc = .ok ((acc : Int)).toNat
    rw [Int.toNat_natCast]
  | b :: m, acc, ha, h => by
    rw [vRun] at h ⊢
    by_cases h1 : dg b.toNat ≥ 10
    · rw [if_pos h1] at h; omega
    · rw [if_neg h1] at h ⊢
      obtain ⟨d0, d1, d2⟩ := dg_small h1
      by_cases h2 : (acc : Int) * 10 + dg b.toNat > 999999999999
      · rw [if_pos h2] at h; omega
      · rw [if_neg h2] at h ⊢
        rw [Lib.parseUint10, if_pos ⟨d0, d1⟩, if_neg (by omega), if_neg (by omega)]
        have e : (acc : Int) * 10 + dg b.toNat = ((acc * 10 + (b.toNat - 48) : Nat) : Int) := by omega
        rw [e] at h ⊢
        exact pu_ok m _ (by omega) h
theorem pu_ge : ∀ (m : List UInt8) (acc u : Nat), Lib.parseUint10 acc m = .ok u → acc ≤ u
  | [], acc, u, h => by
    simp only [Lib.parseUint10] at h
    injection h with h
    omega
  | b :: m, acc, u, h => by
    rw [Lib.parseUint10] at h
    split at h
    · split at h
      · cases h
      · split at h
        · cases h
        · have := pu_ge m _ u h
          omega
    · cases h
theorem pu_no : ∀ (m : List UInt8) (acc : Nat), vRun 10 m acc < 0 → ∀ u, Lib.parseUint10 acc m = .ok u → 999999999999 < u
  | [], acc, h, u, _ => by
    have : (acc : Int) < 0 := h
    omega
  | b :: m, acc, h, u, hu => by
    rw [vRun] at h
    rw [Lib.parseUint10] at hu
    by_cases h1 : dg b.toNat ≥ 10
    · rw [if_neg (dg_big h1)] at hu; cases hu
    · obtain ⟨d0, d1, d2⟩ := dg_small h1
      rw [if_neg h1] at h
      rw [if_pos ⟨d0, d1⟩] at hu
      split at hu
      · cases hu
      · split at hu
        · cases hu
        · by_cases h2 : (acc : Int) * 10 + dg b.toNat > 999999999999
          · have := pu_ge m _ u hu
            omega
          · rw [if_neg h2] at h
            have e : (acc : Int) * 10 + dg b.toNat = ((acc * 10 + (b.toNat - 48) : Nat) : Int) := by omega
            rw [e] at h
            exact pu_no m _ h u hu
/-- a power's number, without its sign -/
def pwD : List UInt8 → List UInt8
  | [] => []
  | c :: t => if c = 43 ∨ c = 45 then t else c :: t
def pwN : List UInt8 → Bool
  | [] => false
  | c :: _ => c == 45
def pwM (m : List UInt8) : Int := if m = [] then -1 else vRun 10 m 0
def pwOk (r : List UInt8) : Bool := decide (0 ≤ pwM (pwD r)) && decide (pwM (pwD r) ≤ 99)
def pwV (r : List UInt8) : Int := if pwN r then - pwM (pwD r) else pwM (pwD r)
theorem mag_ok {m : List UInt8} (h : 0 ≤ pwM m) : Lib.parseMag m = .ok (pwM m).toNat := by
  unfold pwM at h ⊢
  unfold Lib.parseMag
  by_cases hm : m = []
  · rw [if_pos hm] at h; omega
  · rw [if_neg hm] at h ⊢
    rw [if_neg hm]
    exact pu_ok m 0 (by omega) h
theorem mag_no {m : List UInt8} (h : ¬ pwM m ≤ 99 ∨ pwM m < 0) : ∀ u, Lib.parseMag m = .ok u → 99 < u := by
  intro u hu
  by_cases h0 : 0 ≤ pwM m
  · rw [mag_ok h0] at hu
    injection hu with hu
    omega
  · unfold Lib.parseMag at hu
    unfold pwM at h0
    by_cases hm : m = []
    · rw [if_pos hm] at hu; cases hu
    · rw [if_neg hm] at hu h0
      have := pu_no m 0 (by simpa using h0) u hu
      omega
theorem atoi_cons (c : UInt8) (t : List UInt8) : Lib.atoiAll (c :: t) = match Lib.parseMag (pwD (c :: t)) with
    | .syntax => .syntax
    | .range => .range
    | .ok u => if ¬ c.toNat = 45 ∧ 9223372036854775808 ≤ u then .range else if c.toNat = 45 ∧ 9223372036854775808 < u then .range else .ok (if c.toNat = 45 then -(u : Int) else u) := by
  have h43 : c.toNat = 43 ↔ c = 43 := ⟨fun h => UInt8.toNat_inj.1 h, fun h => by rw [h]; rfl⟩
  have h45 : c.toNat = 45 ↔ c = 45 := ⟨fun h => UInt8.toNat_inj.1 h, fun h => by rw [h]; rfl⟩
  have e : pwD (c :: t) = if c.toNat = 43 ∨ c.toNat = 45 then t else c :: t := by
    rw [pwD]
    by_cases h : c = 43 ∨ c = 45
    · rw [if_pos h, if_pos (by rw [h43, h45]; exact h)]
    · rw [if_neg h, if_neg (by rw [h43, h45]; exact h)]
  rw [e]
  rfl
theorem atoi_ok {r : List UInt8} (h : pwOk r = true) : Lib.atoiAll r = .ok (pwV r) ∧ -99 ≤ pwV r ∧ pwV r ≤ 99 := by
  unfold pwOk at h
  simp only [Bool.and_eq_true, decide_eq_true_eq] at h
  match r, h with
  | c :: t, h =>
    rw [atoi_cons, mag_ok h.1]
    have h45 : c.toNat = 45 ↔ c = 45 := ⟨fun h => UInt8.toNat_inj.1 h, fun h => by rw [h]; rfl⟩
    unfold pwV
    rw [show pwN (c :: t) = (c == 45) from rfl]
    by_cases hc : c = 45
    · have e1 : c.toNat = 45 := h45.2 hc
      simp only [e1, not_true_eq_false, false_and, if_false, true_and, if_true]
      rw [if_neg (by omega), if_pos (by simpa using hc)]
      refine ⟨by rw [Int.toNat_of_nonneg h.1], by omega, by omega⟩
    · have e1 : ¬ c.toNat = 45 := fun e => hc (h45.1 e)
      simp only [e1, not_false_eq_true, true_and, false_and, if_false]
      rw [if_neg (by omega), if_neg (by simpa using hc)]
      refine ⟨by rw [Int.toNat_of_nonneg h.1], by omega, by omega⟩
theorem atoi_no {r : List UInt8} (h : pwOk r = false) : Lib.atoiAll r = .syntax ∨ Lib.atoiAll r = .range ∨ ∃ v, Lib.atoiAll r = .ok v ∧ (v < -99 ∨ 99 < v) := by
  unfold pwOk at h
  simp only [Bool.and_eq_false_iff, decide_eq_false_iff_not] at h
  match r, h with
  | [], _ => exact .inl rfl
  | c :: t, h =>
    have hn := mag_no (m := pwD (c :: t)) (by omega)
    rw [atoi_cons]
    cases hm : Lib.parseMag (pwD (c :: t)) with
    | «syntax» => exact .inl rfl
    | range => exact .inr (.inl rfl)
    | ok u =>
      have hu := hn u hm
      simp only
      split
      · exact .inr (.inl rfl)
      · split
        · exact .inr (.inl rfl)
        · refine .inr (.inr ⟨_, rfl, ?_⟩)
          split
          · omega
          · omega
end Go.Proofs.YtebheehjhnaklaaGreatDoor
namespace Go.Proofs.YtebheehjhnaklaaGreatDoor
open Go Go.RowKit
/-- what stands ahead of the first point, and behind it -/
def ptA (a : List UInt8) : List UInt8 := a.takeWhile fun b => b != 46
def ptB (a : List UInt8) : List UInt8 := (a.dropWhile fun b => b != 46).drop 1
theorem tw_all {a : List UInt8} (h : ∀ b ∈ a, b ≠ 46) : ptA a = a ∧ ptB a = [] := by
  induction a with
  | nil => exact ⟨rfl, rfl⟩
  | cons b l ih =>
    have hb : (b != 46) = true := by simpa using h b (List.mem_cons_self ..)
    obtain ⟨i1, i2⟩ := ih (fun x hx => h x (List.mem_cons_of_mem _ hx))
    unfold ptA ptB at *
    rw [List.takeWhile_cons_of_pos (p := fun b : UInt8 => b != 46) hb, List.dropWhile_cons_of_pos (p := fun b : UInt8 => b != 46) hb, i1, i2]
    exact ⟨rfl, rfl⟩
theorem tw_mid {x y : List UInt8} (h : ∀ b ∈ x, b ≠ 46) : ptA (x ++ 46 :: y) = x ∧ ptB (x ++ 46 :: y) = y := by
  have hp : ∀ b ∈ x, (fun b : UInt8 => b != 46) b = true := fun b hb => by simpa using h b hb
  unfold ptA ptB
  rw [List.takeWhile_append_of_pos hp, List.dropWhile_append_of_pos hp]
  rw [List.takeWhile_cons_of_neg (by decide), List.dropWhile_cons_of_neg (by decide)]
  exact ⟨by simp, rfl⟩
theorem cut_46 (a : List UInt8) : (Lib.cut a [46]).1 = ptA a ∧ (Lib.cut a [46]).2.1 = ptB a := by
  unfold Lib.cut
  rcases index_one_cases 46 a with ⟨h1, h2⟩ | ⟨i, h1, hi, h2, h3⟩
  · rw [h1, if_neg (by decide), (tw_all h2).1, (tw_all h2).2]
    exact ⟨rfl, rfl⟩
  · rw [h1, if_pos (by omega)]
    have hm := tw_mid (y := a.drop (i + 1)) h2
    rw [← h3] at hm
    rw [hm.1, hm.2, Int.toNat_natCast]
    exact ⟨rfl, rfl⟩
theorem pt_len (a : List UInt8) : (ptA a).length + (ptB a).length ≤ a.length := by
  have h : (ptA a ++ a.dropWhile fun b => b != 46) = a := List.takeWhile_append_dropWhile
  have hl := congrArg List.length h
  rw [List.length_append] at hl
  unfold ptB
  rw [List.length_drop]
  omega
theorem pt_mem {a : List UInt8} {x : UInt8} (h : x ∈ a) : x ∈ ptA a ++ ptB a ∨ x = 46 := by
  rcases index_one_cases 46 a with ⟨h1, h2⟩ | ⟨i, h1, hi, h2, h3⟩
  · rw [(tw_all h2).1, (tw_all h2).2, List.append_nil]; exact .inl h
  · have hm := tw_mid (y := a.drop (i + 1)) h2
    rw [← h3] at hm
    rw [hm.1, hm.2]
    rw [h3] at h
    rcases List.mem_append.1 h with h | h
    · exact .inl (List.mem_append.2 (.inl h))
    · rcases List.mem_cons.1 h with h | h
      · exact .inr h
      · exact .inl (List.mem_append.2 (.inr h))
theorem vRun_rng : ∀ (l : List UInt8) (n : Int), 0 ≤ n → n ≤ 999999999999 → -1 ≤ vRun 10 l n ∧ vRun 10 l n ≤ 999999999999
  | [], n, h0, h1 => ⟨by show -1 ≤ n; omega, h1⟩
  | b :: l, n, h0, h1 => by
    rw [vRun]
    split
    · omega
    · split
      · omega
      · exact vRun_rng l _ (by have := dg_ge b.toNat; omega) (by omega)
theorem vRun_48 (l : List UInt8) : vRun 10 (48 :: l) 0 = vRun 10 l 0 := by
  rw [vRun, if_neg (by decide), if_neg (by decide)]
  rfl
/-- a byte that is no digit shows -/
theorem vRun_bad {x : UInt8} (hx : dg x.toNat ≥ 10) : ∀ (l : List UInt8) (n : Int), x ∈ l → vRun 10 l n = -1
  | [], _, h => by cases h
  | b :: l, n, h => by
    rw [vRun]
    rcases List.mem_cons.1 h with rfl | h
    · rw [if_pos hx]
    · split
      · rfl
      · split
        · rfl
        · exact vRun_bad hx l _ h
theorem trR_mem {x : UInt8} {l : List UInt8} (h : x ∈ l) (hx : x ≠ 48) : x ∈ trR 48 l := by
  unfold trR
  rw [List.mem_reverse]
  have : x ∈ l.reverse := List.mem_reverse.2 h
  generalize l.reverse = m at *
  unfold trL
  induction m with
  | nil => cases this
  | cons b m ih =>
    by_cases hb : b = 48
    · rw [List.dropWhile_cons_of_pos (by simpa using hb)]
      rcases List.mem_cons.1 this with rfl | h2
      · exact absurd hb hx
      · exact ih h2
    · rw [List.dropWhile_cons_of_neg (by simpa using hb)]
      exact this
/-- what is read of an amount with a power -/
def rrFin (neg hund : Bool) (a : List UInt8) (p : Int) : Fd.D × Bool :=
  if ptA a ++ ptB a = [] then (Fd.D.z, false)
  else if vRun 10 (48 :: trR 48 (ptA a ++ ptB a)) 0 < 0 then (Fd.D.z, false)
  else Fd.fit1 ⟨neg, vRun 10 (48 :: trR 48 (ptA a ++ ptB a)) 0, p + ((ptA a ++ ptB a).length : Int) - (trR 48 (ptA a ++ ptB a)).length - (ptB a).length - (if hund then 2 else 0)⟩
def rrM (neg hund : Bool) (m : List UInt8) : Fd.D × Bool :=
  match eP m with
  | none => rrFin neg hund m 0
  | some (a, r) => if pwOk r then rrFin neg hund a (pwV r) else (Fd.D.z, false)
theorem fin_bad {neg hund : Bool} {a : List UInt8} {p : Int} {x : UInt8} (hx : x ∈ a) (hd : dg x.toNat ≥ 10) (h46 : x ≠ 46) : rrFin neg hund a p = (Fd.D.z, false) := by
  have h48 : x ≠ 48 := fun e => by rw [e] at hd; exact absurd hd (by decide)
  unfold rrFin
  split
  · rfl
  · rw [if_pos]
    rw [vRun_48, vRun_bad hd _ _ (trR_mem ((pt_mem hx).resolve_right h46) h48)]
    decide
theorem pw_bad {r : List UInt8} {x : UInt8} (hx : x ∈ r) (hd : dg x.toNat ≥ 10) (h43 : x ≠ 43) (h45 : x ≠ 45) : pwOk r = false := by
  have hm : x ∈ pwD r := by
    match r, hx with
    | c :: t, hx =>
      rw [pwD]
      split
      · rename_i hc
        rcases List.mem_cons.1 hx with rfl | h
        · exact absurd hc (fun h => h.elim h43 h45)
        · exact h
      · exact hx
  have : pwM (pwD r) = -1 := by
    unfold pwM
    rw [if_neg (fun e => by rw [e] at hm; cases hm)]
    exact vRun_bad hd _ _ hm
  unfold pwOk
  rw [this]
  rfl
/-- both letters: no number -/
theorem both_bad {neg hund : Bool} {m : List UInt8} (h1 : (101 : UInt8) ∈ m) (h2 : (69 : UInt8) ∈ m) : rrM neg hund m = (Fd.D.z, false) := by
  unfold rrM
  cases he : eP m with
  | none => exact absurd rfl (eP_none he _ h1).1
  | some p =>
    obtain ⟨a, r⟩ := p
    obtain ⟨g1, b, g2, g3⟩ := eP_mem he
    have hr : (101 : UInt8) ∈ r ∨ (69 : UInt8) ∈ r := by
      rw [g3] at h1 h2
      rcases g2 with rfl | rfl
      · right
        rcases List.mem_append.1 h2 with h | h
        · exact absurd rfl (g1 _ h).2
        · rcases List.mem_cons.1 h with h | h
          · exact absurd h (by decide)
          · exact h
      · left
        rcases List.mem_append.1 h1 with h | h
        · exact absurd rfl (g1 _ h).1
        · rcases List.mem_cons.1 h with h | h
          · exact absurd h (by decide)
          · exact h
    have : pwOk r = false := by
      rcases hr with h | h
      · exact pw_bad h (by decide) (by decide) (by decide)
      · exact pw_bad h (by decide) (by decide) (by decide)
    simp only [this]
    rfl
end Go.Proofs.YtebheehjhnaklaaGreatDoor
