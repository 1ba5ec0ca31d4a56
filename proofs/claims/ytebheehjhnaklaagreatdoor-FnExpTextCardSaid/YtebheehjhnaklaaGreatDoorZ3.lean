import Derived.Test.YtebheehjhnaklaaGreatDoorV8
import Derived.Test.YtebheehjhnaklaaGreatDoorW0
import Derived.Test.YtebheehjhnaklaaGreatDoorX1
namespace Go.Proofs.YtebheehjhnaklaaGreatDoor
open Go.RowKit
/-- the alignment that a specification has -/
def alW (al : Int) (ze : Bool) (k : Int) : Int := if al = 0 then (if ze then 4 else if k = 2 then 1 else 2) else al
def alF (sv : Bool) (al : Int) (ze : Bool) (k : Int) : Int := if sv then alW al ze k else 0
set_option maxHeartbeats 2000000 in
theorem AlignFor_any (f : ByteArray) (al si : Int) (alt ze : Bool) (wi gr pr : Int) (t : ByteArray) (k : Int) (w : World) :
    Calls Tryz.prog 147 #[.agg #[.string f, .int .i64 al, .int .i64 si, .bool alt, .bool ze, .int .i64 wi, .int .i64 gr, .int .i64 pr, .string t], .int .i64 k] w fun r w' => r = .returned (.int .i64 (alF (suitW (vSp f al si wi gr pr t) al si alt ze gr pr t k) al ze k)) ∧ Below w.heap.size w w' := by
  have k1 := fun W => SpecSuits_any f al si alt ze wi gr pr t k W
  generalize suitW (vSp f al si wi gr pr t) al si alt ze gr pr t k = X at *
  have K1 := Lib.hid k1
  clear k1
  cases X <;> unfold alF alW
  all_goals (
    go_enter Tryz.func147, Tryz.ntmps147
    go_wp2_with (first | (go_at_call 85; (with_reducible refine Calls.mono (K1.out _) ?_); rintro r w1 ⟨rfl, hb⟩; (first | (have hcc := fun o => hb.cell (p := ⟨w.heap.size, o, none⟩) (by first | omega | (simp; done) | (simp <;> omega))) | skip); have hz := hb.size; (try simp at hz); have hB : Below w.heap.size w w1 := (by refine Below.trans ?_ (hb.mono (by first | omega | (simp; done) | (simp <;> omega))); repeat (first | with_reducible exact Below.refl _ _ | with_reducible assumption | with_reducible refine Below.setCell ?_ (by first | omega | (simp; done) | (simp <;> omega)) _ | with_reducible refine below_drewN ?_ _ | with_reducible refine Below.drew ?_ | with_reducible refine Below.alloc ?_ (by first | omega | (simp; done) | (simp <;> omega)) _))))
    all_goals go_ret
    all_goals refine ⟨ret_int ?_, (by repeat (first | with_reducible exact Below.refl _ _ | with_reducible assumption | with_reducible refine Below.setCell ?_ (by first | omega | (simp; done) | (simp <;> omega)) _ | with_reducible refine below_drewN ?_ _ | with_reducible refine Below.drew ?_ | with_reducible refine Below.alloc ?_ (by first | omega | (simp; done) | (simp <;> omega)) _))⟩
    all_goals first | rfl | (simp_all; done))
set_option maxHeartbeats 1000000 in
theorem alignOfS_any (f : ByteArray) (al si : Int) (alt ze : Bool) (wi gr pr : Int) (t : ByteArray) (k : Int) (w : World) :
    Calls Tryz.prog 189 #[.agg #[.string f, .int .i64 al, .int .i64 si, .bool alt, .bool ze, .int .i64 wi, .int .i64 gr, .int .i64 pr, .string t], .int .i64 k] w fun r w' => r = .returned (.int .i64 (alW al ze k)) ∧ Below w.heap.size w w' := by
  unfold alW
  go_enter Tryz.func189, Tryz.ntmps189
  go_wp2
  all_goals go_ret
  all_goals refine ⟨ret_int ?_, (by repeat (first | with_reducible exact Below.refl _ _ | with_reducible assumption | with_reducible refine Below.setCell ?_ (by first | omega | (simp; done) | (simp <;> omega)) _ | with_reducible refine below_drewN ?_ _ | with_reducible refine Below.drew ?_ | with_reducible refine Below.alloc ?_ (by first | omega | (simp; done) | (simp <;> omega)) _))⟩
  all_goals first | rfl | (simp_all; done)
set_option maxHeartbeats 1000000 in
theorem fillOfS_any (f : ByteArray) (al si : Int) (alt ze : Bool) (wi gr pr : Int) (t : ByteArray) (w : World) :
    Calls Tryz.prog 188 #[.agg #[.string f, .int .i64 al, .int .i64 si, .bool alt, .bool ze, .int .i64 wi, .int .i64 gr, .int .i64 pr, .string t]] w fun r w' => r = .returned (.string (fillW true f ze)) ∧ Below w.heap.size w w' := by
  by_cases hf : f.size = 0
  · obtain rfl : f = ⟨#[]⟩ := by
      rcases bytes_cases f with h | ⟨b, rfl⟩ | h
      · exact h
      · exact absurd hf (by simp [ByteArray.size])
      · omega
    cases ze
    all_goals (
      go_enter Tryz.func188, Tryz.ntmps188
      go_wp2
      go_ret
      exact ⟨ret_str rfl, (by repeat (first | with_reducible exact Below.refl _ _ | with_reducible assumption | with_reducible refine Below.setCell ?_ (by first | omega | (simp; done) | (simp <;> omega)) _ | with_reducible refine below_drewN ?_ _ | with_reducible refine Below.drew ?_ | with_reducible refine Below.alloc ?_ (by first | omega | (simp; done) | (simp <;> omega)) _))⟩)
  · have hn : f.toList.isEmpty = false := nonempty_list (by omega)
    have hx : fillW true f ze = f := by unfold fillW; rw [if_pos rfl, if_neg hf]
    rw [hx]
    clear hx hf
    go_enter Tryz.func188, Tryz.ntmps188
    go_wp2
    go_ret
    exact ⟨rfl, (by repeat (first | with_reducible exact Below.refl _ _ | with_reducible assumption | with_reducible refine Below.setCell ?_ (by first | omega | (simp; done) | (simp <;> omega)) _ | with_reducible refine below_drewN ?_ _ | with_reducible refine Below.drew ?_ | with_reducible refine Below.alloc ?_ (by first | omega | (simp; done) | (simp <;> omega)) _))⟩
end Go.Proofs.YtebheehjhnaklaaGreatDoor
namespace Go.Proofs.YtebheehjhnaklaaGreatDoor
open Go.RowKit
theorem ext_take (k : Nat) (l : List UInt8) : (⟨l.toArray⟩ : ByteArray).extract 0 k = ⟨(l.take k).toArray⟩ := by
  apply ByteArray.ext
  rw [ByteArray.data_extract]
  apply Array.ext'
  rw [Array.toList_extract]
  simp [List.extract_eq_take_drop]
theorem ext_drop (k : Nat) (l : List UInt8) : (⟨l.toArray⟩ : ByteArray).extract k l.length = ⟨(l.drop k).toArray⟩ := by
  apply ByteArray.ext
  rw [ByteArray.data_extract]
  apply Array.ext'
  rw [Array.toList_extract]
  simp only [List.extract_eq_take_drop, List.toList_toArray]
  exact List.take_of_length_le (by rw [List.length_drop]; exact Nat.le_refl _)
def rep (c : UInt8) (n : Nat) : List UInt8 := List.replicate n c
theorem rep_len (c : UInt8) (n : Nat) : (rep c n).length = n := by simp [rep]
theorem repeat_rep (c : UInt8) : ∀ m : Nat, Lib.repeatL [c] m = rep c m
  | 0 => rfl
  | m + 1 => by
    have h := repeat_rep c m
    simp [Lib.repeatL, rep, List.replicate_succ] at h ⊢
    try exact h
theorem Repeat_rep (c : UInt8) (m : Nat) (hm : m ≤ 1000) (w : World) : Calls Tryz.prog 163 #[.string ⟨#[c]⟩, .int .i64 m] w fun r w' => r = .returned (.string ⟨(rep c m).toArray⟩) ∧ Below w.heap.size w w' := by
  have h := Tryz.strings_Repeat ⟨#[c]⟩ m w (by omega) (by show 1 * m ≤ _; omega)
  rw [show (⟨#[c]⟩ : ByteArray).data.toList = [c] from rfl, repeat_rep] at h
  exact h
/-- a text with a fill to a width -/
def padL (H B : List UInt8) (wi : Nat) (c : UInt8) (al : Int) : List UInt8 :=
  if al = 1 then H ++ (B ++ rep c (wi - H.length - B.length)) else if al = 3 then rep c ((wi - H.length - B.length) / 2) ++ (H ++ (B ++ rep c (wi - H.length - B.length - (wi - H.length - B.length) / 2)))
  else if al = 4 then H ++ (rep c (wi - H.length - B.length) ++ B) else rep c (wi - H.length - B.length) ++ (H ++ B)
theorem greater_pos (a : Int) (ha : a ≤ 1000) (w : World) : Calls Tryz.prog 166 #[.int .i64 a, .int .i64 0] w fun r w' => r = .returned (.int .i64 ((a.toNat : Nat) : Int)) ∧ w = w' := by
  by_cases h : a < 0
  · go_enter Tryz.func166, Tryz.ntmps166
    go_wp2
    all_goals go_ret
    all_goals exact ⟨ret_int (by omega), rfl⟩
  · have i1 : ¬ a < 0 := h
    go_enter Tryz.func166, Tryz.ntmps166
    go_wp2
    all_goals go_ret
    all_goals exact ⟨ret_int (by omega), rfl⟩
theorem greater_abs (a : Int) (ha : -1000000000000 ≤ a ∧ a ≤ 1000000000000) (w : World) : Calls Tryz.prog 166 #[.int .i64 a, .int .i64 (-a)] w fun r w' => r = .returned (.int .i64 ((a.natAbs : Nat) : Int)) ∧ w = w' := by
  by_cases h : a < -a
  · go_enter Tryz.func166, Tryz.ntmps166
    go_wp2
    all_goals go_ret
    all_goals exact ⟨ret_int (by omega), rfl⟩
  · have i1 : ¬ a < -a := h
    go_enter Tryz.func166, Tryz.ntmps166
    go_wp2
    all_goals go_ret
    all_goals exact ⟨ret_int (by omega), rfl⟩
/-- the sign ahead -/
def sgnL (si : Int) (neg : Bool) : List UInt8 := if neg then [45] else if si = 2 then [43] else if si = 3 then [32] else []
theorem sgn_len (si : Int) (neg : Bool) : (sgnL si neg).length ≤ 1 := by
  unfold sgnL
  split
  · simp
  · split
    · simp
    · split <;> simp
theorem signFor_any (si : Int) (neg : Bool) (w : World) : Calls Tryz.prog 142 #[.int .i64 si, .bool neg] w fun r w' => r = .returned (.string ⟨(sgnL si neg).toArray⟩) ∧ w = w' := by
  cases neg
  · by_cases h2 : si = 2
    · subst h2
      go_enter Tryz.func142, Tryz.ntmps142
      go_wp2
      go_ret
      exact ⟨rfl, rfl⟩
    · by_cases h3 : si = 3
      · subst h3
        go_enter Tryz.func142, Tryz.ntmps142
        go_wp2
        go_ret
        exact ⟨rfl, rfl⟩
      · rw [show sgnL si false = [] by simp [sgnL, h2, h3]]
        have e2 : (si == 2) = false := by simpa using h2
        have e3 : (si == 3) = false := by simpa using h3
        go_enter Tryz.func142, Tryz.ntmps142
        go_wp2
        all_goals go_ret
        all_goals exact ⟨rfl, rfl⟩
  · go_enter Tryz.func142, Tryz.ntmps142
    go_wp2
    go_ret
    exact ⟨rfl, rfl⟩
theorem signTextS_any (si : Int) (neg : Bool) (w : World) : Calls Tryz.prog 183 #[.bool neg, .int .i64 si] w fun r w' => r = .returned (.string ⟨(sgnL si neg).toArray⟩) ∧ w = w' := by
  cases neg
  · by_cases h2 : si = 2
    · subst h2
      go_enter Tryz.func183, Tryz.ntmps183
      go_wp2
      go_ret
      exact ⟨rfl, rfl⟩
    · by_cases h3 : si = 3
      · subst h3
        go_enter Tryz.func183, Tryz.ntmps183
        go_wp2
        go_ret
        exact ⟨rfl, rfl⟩
      · rw [show sgnL si false = [] by simp [sgnL, h2, h3]]
        have e2 : (si == 2) = false := by simpa using h2
        have e3 : (si == 3) = false := by simpa using h3
        go_enter Tryz.func183, Tryz.ntmps183
        go_wp2
        all_goals go_ret
        all_goals exact ⟨rfl, rfl⟩
  · go_enter Tryz.func183, Tryz.ntmps183
    go_wp2
    go_ret
    exact ⟨rfl, rfl⟩
end Go.Proofs.YtebheehjhnaklaaGreatDoor
namespace Go.Proofs.YtebheehjhnaklaaGreatDoor
open Go.RowKit
theorem rep_snoc (c : UInt8) (k : Nat) : rep c k ++ [c] = rep c (k + 1) := by
  simp [rep, List.replicate_succ']
set_option maxRecDepth 100000 in
set_option maxHeartbeats 2000000 in
theorem repeatS_any (c : UInt8) (n : Nat) (hn : n ≤ 100) (w : World) : Calls Tryz.prog 167 #[.string ⟨#[c]⟩, .int .i64 n] w fun r w' => r = .returned (.string ⟨(rep c n).toArray⟩) ∧ w = w' := by
  go_enter Tryz.func167, Tryz.ntmps167
  go_wp2
  go_loopg [5, 6] n (fun g s5 s6 wr => ∃ k : Nat, wr = w ∧ s5 = .string ⟨(rep c k).toArray⟩ ∧ s6 = .int .i64 k ∧ k ≤ n ∧ Aside (g = n - k))
  case atStart => exact ⟨0, rfl, rfl, rfl, by omega, by show _ = _; omega⟩
  case round =>
    obtain ⟨k, rfl, rfl, rfl, hk, hg⟩ := hrel
    have hg' := hg.out
    clear hg
    by_cases hlt : k < n
    · have i1 : (k : Int) < n := by omega
      have hq : ¬ (9223372036854775807 < (rep c k).length + 1) := by rw [rep_len]; omega
      have hc : (⟨(rep c k).toArray⟩ : ByteArray) ++ ⟨#[c]⟩ = ⟨(rep c (k + 1)).toArray⟩ := by rw [← rep_snoc]; exact cat_l (rep c k) [c]
      go_wp2
      go_roundg (n - (k + 1))
      case measure => omega
      case rel => exact ⟨k + 1, rfl, rfl, by go_num, by omega, rfl⟩
    · obtain rfl : k = n := by omega
      have i1 : ¬ (k : Int) < k := by omega
      go_wp2
      go_ret
      exact ⟨rfl, rfl⟩
/-- what the fill is made of -/
structure FP (c : UInt8) (m : Nat) (A A1 A2 : List UInt8) : Prop where
  e0 : A = rep c m
  e1 : (⟨A.toArray⟩ : ByteArray).extract 0 (m / 2) = ⟨A1.toArray⟩
  e2 : (⟨A.toArray⟩ : ByteArray).extract (m / 2) m = ⟨A2.toArray⟩
  l0 : A.length = m
  l1 : A1 = rep c (m / 2)
  l2 : A2 = rep c (m - m / 2)
theorem FP.mk' (c : UInt8) (m : Nat) : FP c m (rep c m) (rep c (m / 2)) (rep c (m - m / 2)) := by
  refine ⟨rfl, ?_, ?_, rep_len c m, rfl, rfl⟩
  · rw [ext_take]
    simp [rep, List.take_replicate]
    omega
  · have := ext_drop (m / 2) (rep c m)
    rw [rep_len] at this
    rw [this]
    simp [rep, List.drop_replicate]
set_option maxRecDepth 100000 in
set_option maxHeartbeats 4000000 in
theorem filled_any (H B : List UInt8) (wi : Nat) (c : UInt8) (al : Int) (w : World) (hH : H.length ≤ 200) (hB : B.length ≤ 400) (hw : wi ≤ 30) (ha : 1 ≤ al ∧ al ≤ 4) :
    Calls Tryz.prog 144 #[.string ⟨H.toArray⟩, .string ⟨B.toArray⟩, .int .i64 wi, .string ⟨#[c]⟩, .int .i64 al] w fun r w' => r = .returned (.string ⟨(padL H B wi c al).toArray⟩) ∧ Below w.heap.size w w' := by
  have kg := fun W => mBn (greater_pos ((wi : Int) - H.length - B.length) (by omega) W)
  have hm : ((wi : Int) - H.length - B.length).toNat = wi - H.length - B.length := by omega
  rw [hm] at kg
  have hm30 : wi - H.length - B.length ≤ 30 := by omega
  have kr := fun W => Repeat_rep c (wi - H.length - B.length) (by omega) W
  have hfp := FP.mk' c (wi - H.length - B.length)
  have hal : al = 1 ∨ al = 2 ∨ al = 3 ∨ al = 4 := by omega
  have htd : ((wi - H.length - B.length : Nat) : Int).tdiv 2 = ((wi - H.length - B.length) / 2 : Nat) := tdivN (wi - H.length - B.length) 2
  have hq : (wi - H.length - B.length) / 2 ≤ wi - H.length - B.length := by omega
  unfold padL
  clear hm
  generalize wi - H.length - B.length = m at *
  generalize rep c m = A at *
  generalize rep c (m / 2) = A1 at *
  generalize rep c (m - m / 2) = A2 at *
  obtain ⟨e0, e1, e2, l0, l1, l2⟩ := hfp
  clear e0
  have l1' : A1.length ≤ 30 := by rw [l1, rep_len]; omega
  have l2' : A2.length ≤ 30 := by rw [l2, rep_len]; omega
  clear l1 l2
  generalize m / 2 = q at *
  have hwq : IntKind.i64.wrap (q : Int) = q := IntWalk.i64_in _ (by omega)
  have i1 : ¬ (q : Int) < 0 := by omega
  have i2 : ¬ (m : Int) < q := by omega
  have i3 : ¬ m < q := by omega
  have c1 := cat_l H B; have c2 := cat_l (H ++ B) A; have c3 := cat_l A H; have c4 := cat_l (A ++ H) B; have c5 := cat_l H A; have c6 := cat_l (H ++ A) B
  have c7 := cat_l A1 H; have c8 := cat_l (A1 ++ H) B; have c9 := cat_l ((A1 ++ H) ++ B) A2
  have b1 : ¬ (9223372036854775807 < H.length + B.length) := by omega
  have b2 : ¬ (9223372036854775807 < H.length + B.length + m) := by omega
  have b3 : ¬ (9223372036854775807 < m + H.length) := by omega
  have b4 : ¬ (9223372036854775807 < m + H.length + B.length) := by omega
  have b5 : ¬ (9223372036854775807 < H.length + m) := by omega
  have b6 : ¬ (9223372036854775807 < H.length + m + B.length) := by omega
  have b7 : ¬ (9223372036854775807 < A1.length + H.length) := by omega
  have b8 : ¬ (9223372036854775807 < A1.length + H.length + B.length) := by omega
  have b9 : ¬ (9223372036854775807 < A1.length + H.length + B.length + A2.length) := by omega
  have KG := Lib.hid kg; have KR := Lib.hid kr
  clear kg kr
  have hB0 := Below.refl w.heap.size w
  rcases hal with rfl | rfl | rfl | rfl
  all_goals (
    go_enter Tryz.func144, Tryz.ntmps144
    go_wp2_with (first | (go_at_call 166; (with_reducible refine Calls.mono (KG.out _) ?_); rintro r w1 ⟨rfl, hb⟩; replace hB0 := hB0.trans (hb.mono hB0.size)) | (go_at_call 163; (with_reducible refine Calls.mono (KR.out _) ?_); rintro r w1 ⟨rfl, hb⟩; replace hB0 := hB0.trans (hb.mono hB0.size)))
    all_goals (first | go_ret | (go_region; go_wp2; go_ret))
    all_goals exact ⟨ret_str (by simp [cat_l]), by first | exact hB0 | exact hB0.drew⟩)
end Go.Proofs.YtebheehjhnaklaaGreatDoor
namespace Go.Proofs.YtebheehjhnaklaaGreatDoor
open Go.RowKit
set_option maxRecDepth 100000 in
set_option maxHeartbeats 4000000 in
theorem paddedS_any (H B : List UInt8) (wi : Nat) (c : UInt8) (al : Int) (w : World) (hH : H.length ≤ 200) (hB : B.length ≤ 400) (hw : wi ≤ 30) (ha : 1 ≤ al ∧ al ≤ 4) :
    Calls Tryz.prog 187 #[.string ⟨H.toArray⟩, .string ⟨B.toArray⟩, .int .i64 wi, .string ⟨#[c]⟩, .int .i64 al] w fun r w' => r = .returned (.string ⟨(padL H B wi c al).toArray⟩) ∧ Below w.heap.size w w' := by
  have hm : ((wi : Int) - H.length - B.length).toNat = wi - H.length - B.length := by omega
  have hm30 : wi - H.length - B.length ≤ 30 := by omega
  have kr := fun W => mBn (repeatS_any c (wi - H.length - B.length) (by omega) W)
  have kr1 := fun W => mBn (repeatS_any c ((wi - H.length - B.length) / 2) (by omega) W)
  have kr2 := fun W => mBn (repeatS_any c (wi - H.length - B.length - (wi - H.length - B.length) / 2) (by omega) W)
  have hal : al = 1 ∨ al = 2 ∨ al = 3 ∨ al = 4 := by omega
  have htd : ((wi - H.length - B.length : Nat) : Int).tdiv 2 = ((wi - H.length - B.length) / 2 : Nat) := tdivN (wi - H.length - B.length) 2
  have hdv : ((wi - H.length - B.length : Nat) : Int) / 2 = ((wi - H.length - B.length) / 2 : Nat) := by omega
  have hqq : (wi - H.length - B.length) / 2 ≤ wi - H.length - B.length := by omega
  have hmx : max (0 : Int) ((wi : Int) - H.length - B.length) = ((wi - H.length - B.length : Nat) : Int) := by omega
  have hsub : ((wi - H.length - B.length : Nat) : Int) - (((wi - H.length - B.length) / 2 : Nat) : Int) = ((wi - H.length - B.length - (wi - H.length - B.length) / 2 : Nat) : Int) := by omega
  unfold padL
  clear hm
  have l0 := rep_len c (wi - H.length - B.length)
  have l1 := rep_len c ((wi - H.length - B.length) / 2)
  have l2 := rep_len c (wi - H.length - B.length - (wi - H.length - B.length) / 2)
  have hr1 : (wi - H.length - B.length) / 2 ≤ 30 := by omega
  have hr2 : wi - H.length - B.length - (wi - H.length - B.length) / 2 ≤ 30 := by omega
  have hB0 := Below.refl w.heap.size w
  rcases hal with rfl | rfl | rfl | rfl
  all_goals (
    generalize hM : wi - H.length - B.length = m at *
    generalize m / 2 = q at *
    generalize m - q = p at *
    have w1 : IntKind.i64.wrap ((wi : Int) - H.length) = (wi : Int) - H.length := by rw [IntKind.wrap_i64]; omega
    have hwq : IntKind.i64.wrap (q : Int) = q := IntWalk.i64_in _ (by omega)
    have i1 : ¬ (q : Int) < 0 := by omega
    generalize rep c m = A at *
    generalize rep c q = A1 at *
    generalize rep c p = A2 at *
    have KR := Lib.hid kr; have KR1 := Lib.hid kr1; have KR2 := Lib.hid kr2
    clear kr kr1 kr2 hM
    go_enter Tryz.func187, Tryz.ntmps187
    go_wp2_with (first | (go_at_call 167; (with_reducible refine Calls.mono (KR.out _) ?_); rintro r w1 ⟨rfl, hb⟩; replace hB0 := hB0.trans (hb.mono hB0.size)) | (go_at_call 167; (with_reducible refine Calls.mono (KR1.out _) ?_); rintro r w1 ⟨rfl, hb⟩; replace hB0 := hB0.trans (hb.mono hB0.size)) | (go_at_call 167; (with_reducible refine Calls.mono (KR2.out _) ?_); rintro r w1 ⟨rfl, hb⟩; replace hB0 := hB0.trans (hb.mono hB0.size)))
    all_goals go_ret
    all_goals exact ⟨ret_str (by simp [cat_l]), by first | exact hB0 | exact hB0.drew⟩)
/-- the fill's byte -/
def fcB (f : ByteArray) (ze : Bool) : UInt8 := match f.data.toList with | [] => if ze then 48 else 32 | b :: _ => b
theorem fill_one {f : ByteArray} {al : Int} {ze : Bool} (h : okFill f al = true) : fillW true f ze = ⟨#[fcB f ze]⟩ := by
  rcases okFill_cases h with rfl | ⟨b, rfl⟩
  · cases ze <;> rfl
  · rfl
theorem alW_in {al : Int} (ze : Bool) (h0 : 0 ≤ al) (h4 : al ≤ 4) : 1 ≤ alW al ze 0 ∧ alW al ze 0 ≤ 4 := by
  unfold alW
  split
  · cases ze <;> simp
  · omega
/-- how wide the digits are to be with zeros ahead -/
def zuN (c : UInt8) (a : Int) (wi others : Nat) : Nat := if c = 48 ∧ a = 4 then wi - others else 0
theorem zu_le {c : UInt8} {a : Int} {wi others : Nat} : zuN c a wi others ≤ wi := by unfold zuN; split <;> omega
end Go.Proofs.YtebheehjhnaklaaGreatDoor
