import Derived.Test.YtfnmlcgnbmphlaaGreatDoorG71
import Derived.Test.YtfnmlcgnbmphlaaGreatDoorG72
import Derived.Test.YtfnmlcgnbmphlaaGreatDoorG73
import Derived.Test.YtfnmlcgnbmphlaaGreatDoorG74
import Derived.Test.YtfnmlcgnbmphlaaGreatDoorG13
namespace Go.Proofs.YtfnmlcgnbmphlaaGreatDoor
open Go Go.RowKit
/-- what both sides make of an amount -/
def AmB (f : ByteArray) (al si : Int) (alt ze : Bool) (wi gr pr : Int) (t : List UInt8) (n : Bool) (c e : Int) (A B T : List UInt8) : Prop :=
  AmL A B T ∧ (∀ W, PT W → Calls Tryz.prog 90 #[.agg #[.string f, .int .i64 al, .int .i64 si, .bool alt, .bool ze, .int .i64 wi, .int .i64 gr, .int .i64 pr, .string ⟨t.toArray⟩], .agg #[.bool n, .int .i64 c, .int .i64 e]] W fun r w' => r = .returned (.agg #[.string ⟨A.toArray⟩, .string ⟨B.toArray⟩, .string ⟨T.toArray⟩]) ∧ Below W.heap.size W w') ∧
  (∀ W, Calls Tryz.prog 144 #[.agg #[.string f, .int .i64 al, .int .i64 si, .bool alt, .bool ze, .int .i64 wi, .int .i64 gr, .int .i64 pr, .string ⟨t.toArray⟩], .agg #[.bool n, .int .i64 c, .int .i64 e]] W fun r w' => r = .returned (.tuple #[.string ⟨A.toArray⟩, .string ⟨B.toArray⟩, .string ⟨T.toArray⟩]) ∧ Below W.heap.size W w')
theorem fx_am {c e : Int} {P : Nat} {T : List UInt8} (hb : fxC c e P ≤ 999999999) (h4 : e + P ≤ 40) (h5 : P ≤ 29) (hT : T.length ≤ 5) : AmL (fxA c e P) (fxB c e P) T :=
  ⟨(fxAB_len hb h4 h5).1, (fxAB_len hb h4 h5).2, hT, fxA_dg c e P, fxB_dg c e P⟩
theorem prW_nat {pr : Int} (h0 : -1 ≤ pr) (h9 : pr ≤ 9) : ∃ P : Nat, prW pr = P ∧ P ≤ 9 := by
  unfold prW
  split
  · exact ⟨6, rfl, by omega⟩
  · exact ⟨pr.toNat, by omega, by omega⟩
theorem min_nat {pr : Int} (h0 : -1 ≤ pr) (h9 : pr ≤ 9) : ∃ P : Nat, min (prW pr) 8 = P ∧ P ≤ 8 := by
  obtain ⟨P, h, h1⟩ := prW_nat h0 h9
  rw [h]
  exact ⟨min P 8, by omega, by omega⟩
theorem max_nat {pr : Int} (h0 : -1 ≤ pr) (h9 : pr ≤ 9) : ∃ P : Nat, max (prW pr) 1 = (P : Int) + 1 ∧ P ≤ 8 := by
  obtain ⟨P, h, h1⟩ := prW_nat h0 h9
  rw [h]
  exact ⟨max P 1 - 1, by omega, by omega⟩
theorem pow_le {n : Bool} {c e : Int} {P : Nat} (u : UInt8) (hv : Fd.vld ⟨n, c, e⟩ = true) (hp : P ≤ 8) : (powL u (rlI n c e (P + 1))).length ≤ 5 := by
  have hb := rl_bd (g := (P : Int) + 1) hv (by omega) (by omega)
  exact powL_len ⟨by omega, by omega⟩
theorem gnU_le {n : Bool} {c e : Int} {P : Nat} (u : UInt8) (hv : Fd.vld ⟨n, c, e⟩ = true) (hp : P ≤ 8) : (gnU u n c e P).length ≤ 5 := by
  unfold gnU
  split
  · exact pow_le u hv hp
  · simp
theorem trR_le70 {l : List UInt8} (h : l.length ≤ 70) : (trR 48 l).length ≤ 70 := Nat.le_trans (trR_len 48 l) h
theorem am_ex (f : ByteArray) (al si : Int) (alt ze : Bool) (wi gr pr : Int) (t : List UInt8) (n : Bool) (c e : Int) (hv : Fd.vld ⟨n, c, e⟩ = true) (h0 : -1 ≤ pr) (h9 : pr ≤ 9) (hT : TyR t) :
    ∃ A B T, AmB f al si alt ze wi gr pr t n c e A B T := by
  obtain ⟨b0, b1, b2, b3⟩ := vld_b hv
  obtain ⟨P, hP, hP9⟩ := prW_nat h0 h9
  obtain ⟨Q, hQ, hQ8⟩ := min_nat h0 h9
  obtain ⟨R, hR, hR8⟩ := max_nat h0 h9
  rcases hT with rfl | rfl | rfl | rfl | rfl | rfl | rfl
  · obtain ⟨m, hm⟩ := pl_facts hv
    have hmb := hm.mb
    have F := fx_facts n (c := c) (e := e) (p := m) b0 b1 (by omega) (by omega) (by omega) (by omega)
    exact ⟨_, _, _, fx_am F.cb (by omega) (by omega) (by simp), fun W h => amountOf_none f al si alt ze wi gr pr n c e _ _ [] W h (fun W h => plain_any n c e m W hv hm h), fun W => realParts_none f al si alt ze wi gr pr n c e m W hv h0 hm.pl hmb⟩
  · have F := fx_facts n (c := c) (e := e) (p := P) b0 b1 (by omega) (by omega) (by omega) (by omega)
    exact ⟨_, _, _, fx_am F.cb (by omega) (by omega) (by simp), fun W h => amountOf_f f al si alt ze wi gr pr n c e _ _ [] W h (fun W h => showFixed_any f al si alt ze wi gr pr _ n c e P W h hv hP hP9), fun W => realParts_f f al si alt ze wi gr pr n c e P W hv h0 hP hP9⟩
  · have hl := ex_len hv hQ8
    exact ⟨_, _, _, ⟨hl.1, hl.2, pow_le 101 hv hQ8, fxA_dg _ _ _, fxB_dg _ _ _⟩, fun W h => amountOf_e f al si alt ze wi gr pr n c e _ _ _ W h (fun W h => showScientific_any f al si alt ze wi gr pr _ n c e Q W h hv hQ hQ8), fun W => realParts_e f al si alt ze wi gr pr n c e Q W hv h0 hQ hQ8⟩
  · have hl := ex_len hv hQ8
    have hpw := pow_le 101 hv hQ8
    exact ⟨_, _, _, ⟨hl.1, hl.2, pow_le 69 hv hQ8, fxA_dg _ _ _, fxB_dg _ _ _⟩, fun W h => amountOf_E f al si alt ze wi gr pr n c e _ _ _ _ W h (fun W h => showScientific_any f al si alt ze wi gr pr _ n c e Q W h hv hQ hQ8) (fun W => ToUpper_pow _ (by omega) W), fun W => realParts_E f al si alt ze wi gr pr n c e Q W hv h0 hQ hQ8⟩
  · have hl := gn_len hv hR8
    cases alt
    · exact ⟨_, _, _, ⟨hl.1, trR_le70 hl.2.1, hl.2.2, gnA_dg _ _ _ _, trR_dg (gnB_dg _ _ _ _)⟩, fun W h => amountOf_g f al si false ze wi gr pr n c e _ _ _ W h (fun W h => showGeneral_any f al si false ze wi gr pr _ n c e R W h hv hR hR8), fun W => realParts_gF f al si ze wi gr pr n c e R W hv h0 hR hR8⟩
    · exact ⟨_, _, _, ⟨hl.1, hl.2.1, hl.2.2, gnA_dg _ _ _ _, gnB_dg _ _ _ _⟩, fun W h => amountOf_g f al si true ze wi gr pr n c e _ _ _ W h (fun W h => showGeneral_any f al si true ze wi gr pr _ n c e R W h hv hR hR8), fun W => realParts_gT f al si ze wi gr pr n c e R W hv h0 hR hR8⟩
  · have hl := gn_len hv hR8
    have hgl : (gnT n c e R).length ≤ 10 := by omega
    cases alt
    · exact ⟨_, _, _, ⟨hl.1, trR_le70 hl.2.1, gnU_le 69 hv hR8, gnA_dg _ _ _ _, trR_dg (gnB_dg _ _ _ _)⟩, fun W h => amountOf_G f al si false ze wi gr pr n c e _ _ _ _ W h (fun W h => showGeneral_any f al si false ze wi gr pr _ n c e R W h hv hR hR8) (fun W => ToUpper_gn n c e R hgl W), fun W => realParts_GF f al si ze wi gr pr n c e R W hv h0 hR hR8⟩
    · exact ⟨_, _, _, ⟨hl.1, hl.2.1, gnU_le 69 hv hR8, gnA_dg _ _ _ _, gnB_dg _ _ _ _⟩, fun W h => amountOf_G f al si true ze wi gr pr n c e _ _ _ _ W h (fun W h => showGeneral_any f al si true ze wi gr pr _ n c e R W h hv hR hR8) (fun W => ToUpper_gn n c e R hgl W), fun W => realParts_GT f al si ze wi gr pr n c e R W hv h0 hR hR8⟩
  · have F := fx_facts n (c := c) (e := e + 2) (p := P) b0 b1 (by omega) (by omega) (by omega) (by omega)
    exact ⟨_, _, _, fx_am F.cb (by omega) (by omega) (by decide), fun W h => amountOf_p f al si alt ze wi gr pr n c e _ _ [37] W h (fun W h => showPercent_any f al si alt ze wi gr pr _ n c e P W h hv hP hP9), fun W => realParts_p f al si alt ze wi gr pr n c e P W hv h0 hP hP9⟩
end Go.Proofs.YtfnmlcgnbmphlaaGreatDoor
