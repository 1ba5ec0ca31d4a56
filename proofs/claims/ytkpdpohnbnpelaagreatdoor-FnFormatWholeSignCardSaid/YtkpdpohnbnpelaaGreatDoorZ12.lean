import Derived.Test.YtkpdpohnbnpelaaGreatDoorZ9
import Derived.Test.YtkpdpohnbnpelaaGreatDoorZ11
import Derived.Test.YtkpdpohnbnpelaaGreatDoorZR2
import Derived.Test.YtkpdpohnbnpelaaGreatDoorN8
import Derived.Handy
namespace Go.Proofs.YtkpdpohnbnpelaaGreatDoor
open Go.RowKit
theorem suit_other {al si : Int} {alt ze : Bool} {gr pr : Int} {t : ByteArray} (h : suitT al si alt ze gr pr t 0 = true) (hc : ¬ t.data.toList = [99]) : suitT 0 2 alt ze gr pr t 0 = true := by
  unfold suitT at *
  split at h
  · exact h
  · rename_i b e
    rw [e] at hc
    have hb : (b == 99) = false := by
      rw [beq_eq_false_iff_ne]
      intro e2
      exact hc (by rw [e2])
    rw [if_pos rfl] at *
    rw [hb] at h ⊢
    exact h
  · cases h
theorem vSp_other {f : ByteArray} {al si wi gr pr : Int} {t : ByteArray} (V : VS f al si wi gr pr t) : vSp ⟨#[]⟩ 0 2 wi gr pr t = true := by
  simp only [vSp, inr, Bool.and_eq_true, decide_eq_true_eq]
  exact ⟨⟨⟨⟨⟨⟨⟨by omega, by omega⟩, by omega, by omega⟩, V.gr0, V.gr2⟩, V.wi0, V.wi30⟩, V.pr0, V.pr9⟩, rfl⟩, V.type⟩
/-- what both numbers' texts are like -/
theorem both_texts {f : ByteArray} {al si : Int} {alt ze : Bool} {wi gr pr : Int} {t : ByteArray} {n : Int} (hok : fwOk (vSp f al si wi gr pr t) al si alt ze gr pr t n = true) (hc : ¬ t.data.toList = [99]) (h0 : n ≠ 0) :
    (-999999999999 ≤ n ∧ n ≤ 999999999999) ∧ ∃ P Q : List UInt8, (45 : UInt8) ∉ P ∧ (45 : UInt8) ∉ Q ∧ P.length + Q.length ≤ 300 ∧
      fwR (fwOk (vSp ⟨#[]⟩ 0 2 wi gr pr t) 0 2 alt ze gr pr t n) ⟨#[]⟩ 0 2 alt ze wi gr t.data.toList n = P ++ ((if n < 0 then 45 else 43) :: Q) ∧
      fwR (fwOk (vSp ⟨#[]⟩ 0 2 wi gr pr t) 0 2 alt ze gr pr t (-n)) ⟨#[]⟩ 0 2 alt ze wi gr t.data.toList (-n) = P ++ ((if n < 0 then 43 else 45) :: Q) := by
  unfold fwOk suitW at hok
  simp only [Bool.and_eq_true] at hok
  have V := vSp_open hok.1.1
  have hT := tyOk_of hok.1.2 hc
  have hn : -999999999999 ≤ n ∧ n ≤ 999999999999 := by simpa only [inr, Bool.and_eq_true, decide_eq_true_eq] using hok.2
  have hs := suit_other hok.1.2 hc
  have hv := vSp_other V
  have hcc : fcB ⟨#[]⟩ ze ≠ 45 := by cases ze <;> decide
  obtain ⟨P, Q, hP, hQ, hW⟩ := sign_shape (fcB ⟨#[]⟩ ze) (alW 0 ze 0) alt wi.toNat gr t.data.toList n hT hcc
  have hPQ : P.length + Q.length ≤ 300 := by
    have h1 := whole_len (c := fcB ⟨#[]⟩ ze) (a := alW 0 ze 0) (si := 2) (alt := alt) (wi := wi.toNat) (gr := gr) (t := t.data.toList) (n := n) hT (by have := V.wi0; have := V.wi30; omega) (by omega)
    rw [hW n rfl, List.length_append, List.length_cons] at h1
    omega
  refine ⟨hn, P, Q, hP, hQ, hPQ, ?_, ?_⟩
  · rw [show fwOk (vSp ⟨#[]⟩ 0 2 wi gr pr t) 0 2 alt ze gr pr t n = true by unfold fwOk suitW; rw [hv, hs, hok.2]; rfl]
    rw [show fwR true ⟨#[]⟩ 0 2 alt ze wi gr t.data.toList n = fwL ⟨#[]⟩ 0 2 alt ze wi gr t.data.toList n from rfl]
    unfold fwL
    rw [if_neg hc]
    exact hW n rfl
  · have hm : inr (-n) (-999999999999) 999999999999 = true := by simp only [inr, Bool.and_eq_true, decide_eq_true_eq]; omega
    rw [show fwOk (vSp ⟨#[]⟩ 0 2 wi gr pr t) 0 2 alt ze gr pr t (-n) = true by unfold fwOk suitW; rw [hv, hs, hm]; rfl]
    rw [show fwR true ⟨#[]⟩ 0 2 alt ze wi gr t.data.toList (-n) = fwL ⟨#[]⟩ 0 2 alt ze wi gr t.data.toList (-n) from rfl]
    unfold fwL
    rw [if_neg hc, hW (-n) (by omega)]
    by_cases h : n < 0
    · rw [if_pos h, if_neg (by omega)]
    · rw [if_neg h, if_pos (by omega)]
set_option maxRecDepth 100000 in
set_option maxHeartbeats 4000000 in
theorem countByte_any (l : List UInt8) (c : UInt8) (w : World) (hs : l.length ≤ 1000) :
    Calls Tryz.prog 13 #[.string ⟨l.toArray⟩, .int .u8 c.toNat] w fun r w' => r = .returned (.int .i64 ((l.length : Int) - (wo c l).length)) ∧ w = w' := by
  have k1 := fun W => drop_any ⟨l.toArray⟩ c W hs
  rw [show (⟨l.toArray⟩ : ByteArray).data.toList = l from rfl] at k1
  have hl := wo_len c l
  generalize wo c l = D at *
  have hw1 : IntKind.i64.wrap ((l.length : Int) - D.length) = (l.length : Int) - D.length := IntWalk.i64_in _ (by omega)
  have K1 := Lib.hid k1
  clear k1
  go_enter Tryz.func13, Tryz.ntmps13
  go_wp2_with (go_at_call 39; (with_reducible refine Calls.mono (K1.out _) ?_); rintro r w1 ⟨rfl, rfl⟩)
  all_goals go_ret
  all_goals exact ⟨rfl, rfl⟩
set_option maxRecDepth 100000 in
set_option maxHeartbeats 8000000 in
theorem FnFormatWholeSign_law (s : Option Addr) (len cap : Nat) (w : World) (hT : DT w) (hcode : CodeAt s len w.heap.size w) (hcap : len ≤ cap) :
    Calls Tryz.prog 5 #[.slice s len cap] w fun r w' => r = .returned (.bool true) ∧ Below w.heap.size w w' := by
  by_cases hl : 1048576 < len
  · go_enter Tryz.func5, Tryz.ntmps5
    go_wp2
    go_ret
    exact ⟨rfl, (by repeat (first | with_reducible exact Below.refl _ _ | with_reducible assumption | with_reducible refine Below.setCell ?_ (by first | omega | (simp; done) | (simp <;> omega)) _ | with_reducible refine below_drewN ?_ _ | with_reducible refine Below.drew ?_ | with_reducible refine Below.alloc ?_ (by first | omega | (simp; done) | (simp <;> omega)) _))⟩
  go_enter Tryz.func5, Tryz.ntmps5
  go_wp2_with (go_at_call 11; (with_reducible refine Calls.mono (DrawFormatWhole_any _ _ _ _ hcode hcap) ?_); rintro r w1 ⟨⟨f, al, si, alt, ze, wi, gr, pr, t, n, rfl⟩, hB⟩; have hz := hB.size)
  have hT1 := hT.on hB
  have k1 := fun W (h : DT W) => FormatWhole_any f al si alt ze wi gr pr t n W h
  have k2 := fun W => FormatWholeS_any f al si alt ze wi gr pr t n W
  have hXX : ∀ l : List UInt8, (l != l) = false := fun l => by simp
  have hXY : ∀ l : List UInt8, (l == l) = true := fun l => by simp
  have zs := C9.new w1 (.string f) (.int .i64 al) (.int .i64 si) (.bool alt) (.bool ze) (.int .i64 wi) (.int .i64 gr) (.int .i64 pr) (.string t) 26
  have hB0 := hB
  replace hB : Below w.heap.size w (w1.alloc (.cells #[.string f, .int .i64 al, .int .i64 si, .bool alt, .bool ze, .int .i64 wi, .int .i64 gr, .int .i64 pr, .string t] 26)) := hB.alloc (by omega) _
  have zz := zs
  obtain ⟨x0, x1, x2, x3, x4, x5, x6, x7, x8, xf, xl⟩ := zz
  by_cases hX : fwR (fwOk (vSp f al si wi gr pr t) al si alt ze gr pr t n) f al si alt ze wi gr t.data.toList n = []
  · rw [hX] at k1 k2
    have K1 := Lib.hid k1; have K2 := Lib.hid k2
    clear k1 k2 hX
    go_wp2_with (first | (go_at_call 10; (with_reducible refine Calls.mono (K1.out _ (hT.on hB)) ?_); rintro r w2 ⟨rfl, hb⟩; replace hB := hB.trans (hb.mono hB.size); (try (have zN := C9.carry zs hb; clear zs; have zs := zN; clear zN; have zz := zs; obtain ⟨x0, x1, x2, x3, x4, x5, x6, x7, x8, xf, xl⟩ := zz))) | (go_at_call 8; (with_reducible refine Calls.mono (K2.out _) ?_); rintro r w2 ⟨rfl, hb⟩; replace hB := hB.trans (hb.mono hB.size); (try (have zN := C9.carry zs hb; clear zs; have zs := zN; clear zN; have zz := zs; obtain ⟨x0, x1, x2, x3, x4, x5, x6, x7, x8, xf, xl⟩ := zz))))
    all_goals go_ret
    all_goals exact ⟨rfl, hB⟩
  · have hok : fwOk (vSp f al si wi gr pr t) al si alt ze gr pr t n = true := by
      rw [← Bool.not_eq_false]
      intro h
      exact hX (by unfold fwR; rw [h]; rfl)
    have hXe : (fwR (fwOk (vSp f al si wi gr pr t) al si alt ze gr pr t n) f al si alt ze wi gr t.data.toList n).isEmpty = false := by
      rw [List.isEmpty_eq_false_iff]
      exact hX
    clear hX
    by_cases hc : t.data.toList = [99]
    · have et := of_list t
      rw [hc] at et
      subst et
      generalize fwR (fwOk (vSp f al si wi gr pr ⟨#[99]⟩) al si alt ze gr pr ⟨#[99]⟩ n) f al si alt ze wi gr (⟨#[99]⟩ : ByteArray).data.toList n = X at *
      have K1 := Lib.hid k1; have K2 := Lib.hid k2
      clear k1 k2 hok
      go_wp2_with (first | (go_at_call 10; (with_reducible refine Calls.mono (K1.out _ (hT.on hB)) ?_); rintro r w2 ⟨rfl, hb⟩; replace hB := hB.trans (hb.mono hB.size); (try (have zN := C9.carry zs hb; clear zs; have zs := zN; clear zN; have zz := zs; obtain ⟨x0, x1, x2, x3, x4, x5, x6, x7, x8, xf, xl⟩ := zz))) | (go_at_call 8; (with_reducible refine Calls.mono (K2.out _) ?_); rintro r w2 ⟨rfl, hb⟩; replace hB := hB.trans (hb.mono hB.size); (try (have zN := C9.carry zs hb; clear zs; have zs := zN; clear zN; have zz := zs; obtain ⟨x0, x1, x2, x3, x4, x5, x6, x7, x8, xf, xl⟩ := zz))))
      all_goals go_ret
      all_goals exact ⟨rfl, hB⟩
    · have hb1 : (t.data.toList == [99]) = false := by simpa using hc
      by_cases h0 : n = 0
      · subst h0
        generalize fwR (fwOk (vSp f al si wi gr pr t) al si alt ze gr pr t 0) f al si alt ze wi gr t.data.toList 0 = X at *
        have K1 := Lib.hid k1; have K2 := Lib.hid k2
        clear k1 k2 hok
        go_wp2_with (first | (go_at_call 10; (with_reducible refine Calls.mono (K1.out _ (hT.on hB)) ?_); rintro r w2 ⟨rfl, hb⟩; replace hB := hB.trans (hb.mono hB.size); (try (have zN := C9.carry zs hb; clear zs; have zs := zN; clear zN; have zz := zs; obtain ⟨x0, x1, x2, x3, x4, x5, x6, x7, x8, xf, xl⟩ := zz))) | (go_at_call 8; (with_reducible refine Calls.mono (K2.out _) ?_); rintro r w2 ⟨rfl, hb⟩; replace hB := hB.trans (hb.mono hB.size); (try (have zN := C9.carry zs hb; clear zs; have zs := zN; clear zN; have zz := zs; obtain ⟨x0, x1, x2, x3, x4, x5, x6, x7, x8, xf, xl⟩ := zz))))
        all_goals go_ret
        all_goals exact ⟨rfl, hB⟩
      · obtain ⟨hn, P, Q, hP, hQ, hPQ, e3, e4⟩ := both_texts hok hc h0
        have k3 := fun W (h : DT W) => FormatWhole_any ⟨#[]⟩ 0 2 alt ze wi gr pr t n W h
        have k4 := fun W (h : DT W) => FormatWhole_any ⟨#[]⟩ 0 2 alt ze wi gr pr t (-n) W h
        rw [e3] at k3
        rw [e4] at k4
        have n0 : (n == 0) = false := by simpa using h0
        have hwn : IntKind.i64.wrap (-n) = -n := IntWalk.i64_in _ (by omega)
        generalize fwR (fwOk (vSp f al si wi gr pr t) al si alt ze gr pr t n) f al si alt ze wi gr t.data.toList n = X at *
        have hxy : ((if n < 0 then (45 : UInt8) else 43) = 45 ∧ (if n < 0 then (43 : UInt8) else 45) = 43) ∨ ((if n < 0 then (45 : UInt8) else 43) = 43 ∧ (if n < 0 then (43 : UInt8) else 45) = 45) := by by_cases h : n < 0 <;> simp [h]
        generalize (if n < 0 then (45 : UInt8) else 43) = x at *
        generalize (if n < 0 then (43 : UInt8) else 45) = y at *
        have hcx := wo_mid (x := x) hP hQ
        have hcy := wo_mid (x := y) hP hQ
        generalize hA : P ++ (x :: Q) = A at *
        generalize hA2 : P ++ (y :: Q) = A2 at *
        have hl1 : A.length = P.length + Q.length + 1 := by rw [← hA, List.length_append, List.length_cons]; omega
        have hl2 : A2.length = P.length + Q.length + 1 := by rw [← hA2, List.length_append, List.length_cons]; omega
        have hp : ∀ (i : Nat) (h1 : i < A.length) (h2 : i < A2.length), A[i] = A2[i] ∨ (A[i] = 45 ∧ A2[i] = 43) ∨ (A[i] = 43 ∧ A2[i] = 45) := by
          intro i h1 h2
          rcases pair_at hA.symm hA2.symm h1 h2 with h | ⟨h, h'⟩
          · exact .inl h
          · rcases hxy with ⟨rfl, rfl⟩ | ⟨rfl, rfl⟩
            · exact .inr (.inl ⟨h, h'⟩)
            · exact .inr (.inr ⟨h, h'⟩)
        have hcnt : ((A.length : Int) - (wo 45 A).length) + ((A2.length : Int) - (wo 45 A2).length) = 1 := by
          rcases hxy with ⟨rfl, rfl⟩ | ⟨rfl, rfl⟩
          · rw [if_pos rfl] at hcx; rw [if_neg (by decide)] at hcy; omega
          · rw [if_neg (by decide)] at hcx; rw [if_pos rfl] at hcy; omega
        have hLL : A2.length = A.length := by omega
        have kc1 := fun W => countByte_any A 45 W (by omega)
        have kc2 := fun W => countByte_any A2 45 W (by omega)
        rw [show (((45 : UInt8).toNat : Nat) : Int) = 45 from rfl] at kc1 kc2
        rw [hLL] at kc2 hcnt
        have hwl := wo_len 45 A
        have hwl2 := wo_len 45 A2
        have hbd : A.length ≤ 301 := by omega
        generalize (wo 45 A).length = c1 at *
        generalize (wo 45 A2).length = c2 at *
        have hp2 : ∀ (i : Nat) (h1 : i < (⟨A.toArray⟩ : ByteArray).size) (h2 : i < (⟨A2.toArray⟩ : ByteArray).size), (⟨A.toArray⟩ : ByteArray)[i] = (⟨A2.toArray⟩ : ByteArray)[i] ∨ ((⟨A.toArray⟩ : ByteArray)[i] = 45 ∧ (⟨A2.toArray⟩ : ByteArray)[i] = 43) ∨ ((⟨A.toArray⟩ : ByteArray)[i] = 43 ∧ (⟨A2.toArray⟩ : ByteArray)[i] = 45) := fun i h1 h2 => hp i h1 h2
        have hz1 : (⟨A.toArray⟩ : ByteArray).size = A.length := rfl
        have hz2 : (⟨A2.toArray⟩ : ByteArray).size = A.length := hLL
        generalize (⟨A.toArray⟩ : ByteArray) = SA at *
        generalize (⟨A2.toArray⟩ : ByteArray) = SB at *
        clear hp hcx hcy hl1 hl2 hxy hPQ hA hA2 hLL
        generalize A.length = L at *
        have KC1 := Lib.hid kc1; have KC2 := Lib.hid kc2; have HP := Lib.hid hp2
        clear kc1 kc2 hp2
        have K1 := Lib.hid k1; have K2 := Lib.hid k2; have K3 := Lib.hid k3; have K4 := Lib.hid k4
        clear k1 k2 k3 k4 hok e3 e4 h0
        go_wp2_with (first | (go_at_call 10; (with_reducible refine Calls.mono (K1.out _ (hT.on hB)) ?_); rintro r w2 ⟨rfl, hb⟩; replace hB := hB.trans (hb.mono hB.size); have zN := C9.carry zs hb; clear zs; have zs := zN; clear zN; have hz := hB.size; have zz := zs; obtain ⟨x0, x1, x2, x3, x4, x5, x6, x7, x8, xf, xl⟩ := zz) | (go_at_call 8; (with_reducible refine Calls.mono (K2.out _) ?_); rintro r w2 ⟨rfl, hb⟩; replace hB := hB.trans (hb.mono hB.size); have zN := C9.carry zs hb; clear zs; have zs := zN; clear zN; have hz := hB.size; have zz := zs; obtain ⟨x0, x1, x2, x3, x4, x5, x6, x7, x8, xf, xl⟩ := zz) | (go_at_call 10; (with_reducible refine Calls.mono (K3.out _ (hT.on (by repeat (first | with_reducible exact Below.refl _ _ | with_reducible assumption | with_reducible refine Below.setCell ?_ (by first | omega | (simp; done) | (simp <;> omega)) _ | with_reducible refine below_drewN ?_ _ | with_reducible refine Below.drew ?_ | with_reducible refine Below.alloc ?_ (by first | omega | (simp; done) | (simp <;> omega)) _)))) ?_); rintro r w3 ⟨rfl, hb⟩; have zt := C9.carry (C9.new w2 _ _ _ _ _ _ _ _ _ _) hb; replace hB : Below w.heap.size w w3 := (by refine Below.trans ?_ (hb.mono (by first | omega | (simp; done) | (simp <;> omega))); repeat (first | with_reducible exact Below.refl _ _ | with_reducible assumption | with_reducible refine Below.setCell ?_ (by first | omega | (simp; done) | (simp <;> omega)) _ | with_reducible refine below_drewN ?_ _ | with_reducible refine Below.drew ?_ | with_reducible refine Below.alloc ?_ (by first | omega | (simp; done) | (simp <;> omega)) _)); have zz := zt; obtain ⟨z0, z1, z2, z3, z4, z5, z6, z7, z8, zf, zl⟩ := zz) | (go_at_call 10; (with_reducible refine Calls.mono (K4.out _ (hT.on (by repeat (first | with_reducible exact Below.refl _ _ | with_reducible assumption | with_reducible refine Below.setCell ?_ (by first | omega | (simp; done) | (simp <;> omega)) _ | with_reducible refine below_drewN ?_ _ | with_reducible refine Below.drew ?_ | with_reducible refine Below.alloc ?_ (by first | omega | (simp; done) | (simp <;> omega)) _)))) ?_); rintro r w4 ⟨rfl, hb⟩; replace hB : Below w.heap.size w w4 := (by refine Below.trans ?_ (hb.mono (by first | omega | (simp; done) | (simp <;> omega))); repeat (first | with_reducible exact Below.refl _ _ | with_reducible assumption | with_reducible refine Below.setCell ?_ (by first | omega | (simp; done) | (simp <;> omega)) _ | with_reducible refine below_drewN ?_ _ | with_reducible refine Below.drew ?_ | with_reducible refine Below.alloc ?_ (by first | omega | (simp; done) | (simp <;> omega)) _))))
        all_goals first | (go_ret; exact ⟨rfl, hB⟩) | skip
        go_loopg [9] L (fun g s9 wr => ∃ k : Nat, Below w.heap.size w wr ∧ s9 = .int .i64 k ∧ k ≤ L ∧ Aside (g = L - k))
        case atStart => exact ⟨0, hB, rfl, by omega, by show _ = _; omega⟩
        case round =>
          obtain ⟨k, hW, rfl, hk, hg⟩ := hrel
          have hg' := hg.out
          clear hg
          by_cases hlt : k < L
          · have i1 : (k : Int) < L := by omega
            have hlt1 : k < SA.size := by omega
            have hlt2 : k < SB.size := by omega
            have e0 := HP.out k hlt1 hlt2
            have hNe : ∀ x y : Int, (x != y) = !(x == y) := fun _ _ => rfl
            rcases e0 with e | ⟨e, e'⟩ | ⟨e, e'⟩
            · have hu' : (SA[k].toNat : Int) = SB[k].toNat := by rw [e]
              have hq : ((SB[k].toNat : Int) == (SB[k].toNat : Int)) = true := by simp
              clear e
              go_wp2
              go_region
              go_wp2
              go_roundg (L - (k + 1))
              case measure => omega
              case rel => exact ⟨k + 1, hW.drew, by go_num, by omega, rfl⟩
            · have hu' : (SA[k].toNat : Int) = 45 := by rw [e]; rfl
              have hv' : (SB[k].toNat : Int) = 43 := by rw [e']; rfl
              clear e e'
              go_wp2
              go_region
              go_wp2
              go_roundg (L - (k + 1))
              case measure => omega
              case rel => exact ⟨k + 1, hW.drew, by go_num, by omega, rfl⟩
            · have hu' : (SA[k].toNat : Int) = 43 := by rw [e]; rfl
              have hv' : (SB[k].toNat : Int) = 45 := by rw [e']; rfl
              clear e e'
              go_wp2
              go_region
              go_wp2
              go_roundg (L - (k + 1))
              case measure => omega
              case rel => exact ⟨k + 1, hW.drew, by go_num, by omega, rfl⟩
          · obtain rfl : k = L := by omega
            have i1 : ¬ (k : Int) < k := by omega
            go_wp2_with (first | (go_at_call 13; (with_reducible refine Calls.mono (KC1.out _) ?_); rintro r w5 ⟨rfl, rfl⟩) | (go_at_call 13; (with_reducible refine Calls.mono (KC2.out _) ?_); rintro r w5 ⟨rfl, rfl⟩))
            all_goals go_ret
            all_goals exact ⟨rfl, hW⟩
end Go.Proofs.YtkpdpohnbnpelaaGreatDoor
