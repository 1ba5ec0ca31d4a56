import Derived.Test.YtebheehjhnaklaaGreatDoorRR2
import Derived.Test.YtebheehjhnaklaaGreatDoorY2
import Derived.Test.YtebheehjhnaklaaGreatDoorG10
import Derived.Test.YtebheehjhnaklaaGreatDoorRR3
import Derived.Test.YtebheehjhnaklaaGreatDoorY4
import Derived.Test.YtebheehjhnaklaaGreatDoorE13
import Derived.Test.YtebheehjhnaklaaGreatDoorS6
import Derived.Deep.DeepCutAuto
import Derived.Deep.Light
namespace Go.Proofs.YtebheehjhnaklaaGreatDoor
open Go Go.RowKit
theorem ib_cases (c : UInt8) (l : List UInt8) : (c ∉ l ∧ Lib.indexByte l c = -1) ∨ ∃ x y, l = x ++ c :: y ∧ c ∉ x ∧ Lib.indexByte l c = x.length := by
  by_cases h : c ∈ l
  · obtain ⟨x, y, e, hx⟩ := List.eq_append_cons_of_mem h
    refine .inr ⟨x, y, e, hx, ?_⟩
    subst e
    exact idx_hit (by simp) (fun j hj => by
      rw [List.getElem?_append_left hj]
      intro h2
      exact hx (List.mem_of_getElem? h2))
  · exact .inl ⟨h, idx_miss (fun j _ h2 => h (List.mem_of_getElem? h2))⟩
theorem eP_mid {x y : List UInt8} {b : UInt8} (hb : b = 101 ∨ b = 69) (h1 : (101 : UInt8) ∉ x) (h2 : (69 : UInt8) ∉ x) : eP (x ++ b :: y) = some (x, y) := by
  induction x with
  | nil => show eP (b :: y) = _; rw [eP, if_pos hb]
  | cons c x ih =>
    show eP (c :: (x ++ b :: y)) = _
    rw [eP, if_neg, ih (fun h => h1 (List.mem_cons_of_mem _ h)) (fun h => h2 (List.mem_cons_of_mem _ h))]
    · rfl
    · rintro (rfl | rfl)
      · exact h1 (List.mem_cons_self ..)
      · exact h2 (List.mem_cons_self ..)
theorem eP_no {l : List UInt8} (h1 : (101 : UInt8) ∉ l) (h2 : (69 : UInt8) ∉ l) : eP l = none := by
  induction l with
  | nil => rfl
  | cons c x ih =>
    rw [eP, if_neg, ih (fun h => h1 (List.mem_cons_of_mem _ h)) (fun h => h2 (List.mem_cons_of_mem _ h))]
    · rfl
    · rintro (rfl | rfl)
      · exact h1 (List.mem_cons_self ..)
      · exact h2 (List.mem_cons_self ..)
/-- where the model cuts -/
def atS (l : List UInt8) : Int := max (Lib.indexByte l 101) (Lib.indexByte l 69)
/-- what the model makes of it -/
def rrS (neg hund : Bool) (l : List UInt8) : Fd.D × Bool :=
  if atS l < 0 then rrFin neg hund l 0
  else if pwOk (l.drop ((atS l).toNat + 1)) then rrFin neg hund (l.take (atS l).toNat) (pwV (l.drop ((atS l).toNat + 1))) else (Fd.D.z, false)
theorem mid_cut (x y : List UInt8) (b : UInt8) : (x ++ b :: y).take x.length = x ∧ (x ++ b :: y).drop (x.length + 1) = y := by
  constructor
  · simp
  · rw [List.drop_append]; simp
theorem mem_ahead {x y x' y' : List UInt8} {b b' : UInt8} (e : x ++ b :: y = x' ++ b' :: y') (h : x'.length < x.length) : b' ∈ x := by
  have h1 : (x ++ b :: y)[x'.length]? = some b' := by rw [e]; simp
  rw [List.getElem?_append_left h] at h1
  exact List.mem_of_getElem? h1
theorem rrS_eq (neg hund : Bool) (l : List UInt8) : rrS neg hund l = rrM neg hund l := by
  rcases ib_cases 101 l with ⟨n1, i1⟩ | ⟨x, y, e1, hx, i1⟩
  · rcases ib_cases 69 l with ⟨n2, i2⟩ | ⟨x2, y2, e2, hx2, i2⟩
    · unfold rrS rrM atS
      rw [i1, i2, eP_no n1 n2]
      rfl
    · have ha : atS l = x2.length := by unfold atS; rw [i1, i2]; omega
      have he : eP l = some (x2, y2) := by rw [e2]; exact eP_mid (.inr rfl) (fun h => n1 (by rw [e2]; exact List.mem_append.2 (.inl h))) hx2
      obtain ⟨c1, c2⟩ := mid_cut x2 y2 69
      unfold rrS rrM
      rw [ha, if_neg (by omega), he, Int.toNat_natCast, e2, c1, c2]
  · rcases ib_cases 69 l with ⟨n2, i2⟩ | ⟨x2, y2, e2, hx2, i2⟩
    · have ha : atS l = x.length := by unfold atS; rw [i1, i2]; omega
      have he : eP l = some (x, y) := by rw [e1]; exact eP_mid (.inl rfl) hx (fun h => n2 (by rw [e1]; exact List.mem_append.2 (.inl h)))
      obtain ⟨c1, c2⟩ := mid_cut x y 101
      unfold rrS rrM
      rw [ha, if_neg (by omega), he, Int.toNat_natCast, e1, c1, c2]
    · rw [both_bad (by rw [e1]; simp) (by rw [e2]; simp)]
      have hne : x.length ≠ x2.length := by
        intro h
        have h1 : (x ++ 101 :: y)[x.length]? = some 101 := by simp
        have h2 : (x2 ++ 69 :: y2)[x2.length]? = some 69 := by simp
        rw [← e1] at h1
        rw [← e2, ← h, h1] at h2
        exact absurd h2 (by decide)
      unfold rrS
      by_cases hlt : x2.length < x.length
      · have ha : atS l = x.length := by unfold atS; rw [i1, i2]; omega
        have hm := mem_ahead (e1.symm.trans e2) hlt
        obtain ⟨c1, c2⟩ := mid_cut x y 101
        rw [ha, if_neg (by omega), Int.toNat_natCast, e1, c1, c2, fin_bad hm (by decide) (by decide)]
        split <;> rfl
      · have ha : atS l = x2.length := by unfold atS; rw [i1, i2]; omega
        have hm := mem_ahead (e2.symm.trans e1) (by omega)
        obtain ⟨c1, c2⟩ := mid_cut x2 y2 69
        rw [ha, if_neg (by omega), Int.toNat_natCast, e2, c1, c2, fin_bad hm (by decide) (by decide)]
        split <;> rfl
/-- digits with a power, as the model reads them -/
def fdF (neg : Bool) (D : List UInt8) (e : Int) : Fd.D × Bool :=
  if D = [] then (Fd.D.z, false) else if vRun 10 (48 :: trR 48 D) 0 < 0 then (Fd.D.z, false) else Fd.fit1 ⟨neg, vRun 10 (48 :: trR 48 D) 0, e + (D.length : Int) - (trR 48 D).length⟩
theorem fin_fd (neg hund : Bool) (a : List UInt8) (p : Int) : rrFin neg hund a p = fdF neg (ptA a ++ ptB a) (p - (ptB a).length - (if hund then 2 else 0)) := by
  unfold rrFin fdF
  split
  · rfl
  · split
    · rfl
    · congr 2
      omega
theorem fd_bad {neg : Bool} {D : List UInt8} {e : Int} {x : UInt8} (hx : x ∈ D) (hd : dg x.toNat ≥ 10) : fdF neg D e = (Fd.D.z, false) := by
  have h48 : x ≠ 48 := fun e => by rw [e] at hd; exact absurd hd (by decide)
  unfold fdF
  split
  · rfl
  · rw [if_pos]
    rw [vRun_48, vRun_bad hd _ _ (trR_mem hx h48)]
    decide
theorem trR_last {l : List UInt8} (h : trR 48 l ≠ []) : ∃ x b, trR 48 l = x ++ [b] ∧ b ≠ 48 := by
  unfold trR at h ⊢
  generalize l.reverse = m at *
  have h2 : trL 48 m ≠ [] := fun e => h (by rw [e]; rfl)
  unfold trL at h2 ⊢
  induction m with
  | nil => exact absurd rfl h2
  | cons b m ih =>
    by_cases hb : b = 48
    · rw [List.dropWhile_cons_of_pos (by simpa using hb)] at h2 ⊢
      exact ih (fun e => h2 (by unfold trL at e; simpa using e)) h2
    · rw [List.dropWhile_cons_of_neg (by simpa using hb)]
      exact ⟨m.reverse, b, by simp, hb⟩
end Go.Proofs.YtebheehjhnaklaaGreatDoor
namespace Go.Proofs.YtebheehjhnaklaaGreatDoor
open Go Go.RowKit
set_option maxHeartbeats 1000000 in
theorem fittedSW_any (n : Bool) (c e : Int) (w : World) (h0 : 0 ≤ c) (h1 : c ≤ 2000000000000000000) (h2 : -400 ≤ e) (h3 : e ≤ 400) (h4 : 12 < e → c ≤ 2000000000000) :
    Calls Tryz.prog 186 #[.agg #[.bool n, .int .i64 c, .int .i64 e]] w fun r w' =>
      r = .returned (.tuple #[.agg #[.bool (Fd.fit2 ⟨n, c, e⟩).1.n, .int .i64 (Fd.fit2 ⟨n, c, e⟩).1.c, .int .i64 (Fd.fit2 ⟨n, c, e⟩).1.e], .bool (Fd.fit2 ⟨n, c, e⟩).2]) ∧ Below w.heap.size w w' := by
  go_enter Tryz.func186, Tryz.ntmps186
  go_wp2
  go_loopg [12] e.toNat (fun g _ wr => ∃ c2 e2 : Int, wr = (w.alloc (.cells #[.bool n, .int .i64 c2, .int .i64 e2] 24)).alloc (.cells #[.bool false, .int .i64 0, .int .i64 0] 24) ∧ 0 ≤ c2 ∧ c2 ≤ 2000000000000000000 ∧ -400 ≤ e2 ∧ e2 ≤ 400 ∧ Aside (12 < e2 → c2 ≤ 2000000000000) ∧ g = e2.toNat ∧ Aside (Fd.grow2 c2 e2 = Fd.grow2 c e))
  case atStart => exact ⟨c, e, rfl, by omega, by omega, by omega, by omega, h4, rfl, rfl⟩
  case round =>
    obtain ⟨c2, e2, rfl, q1, q2, q3, q4, q6, rfl, q5⟩ := hrel
    clear h4
    by_cases hgo : 12 < e2 ∧ c2 * 10 ≤ 999999999
    · obtain ⟨g3, g4⟩ := hgo
      have g5 := q6.out g3
      go_wp2
      go_roundg (e2 - 1).toNat
      case measure => omega
      case rel => exact ⟨c2 * 10, e2 - 1, rfl, by omega, by omega, by omega, by omega, by intro; omega, rfl, by rw [← q5.out, ← Fd.grow2_yes g3 g4]; exact rfl⟩
    · have hfit : Fd.fit2 ⟨n, c, e⟩ = if Fd.vld ⟨n, c2, e2⟩ then (⟨n, c2, e2⟩, true) else (Fd.D.z, false) := by
        unfold Fd.fit2; simp only; rw [← q5.out, Fd.grow2_no hgo]
      have HV : (Fd.vld ⟨n, c2, e2⟩ = false ∧ Hid (Fd.fit2 ⟨n, c, e⟩ = (Fd.D.z, false))) ∨ (Fd.vld ⟨n, c2, e2⟩ = true ∧ Hid (Fd.fit2 ⟨n, c, e⟩ = (⟨n, c2, e2⟩, true))) := by
        cases hv : Fd.vld ⟨n, c2, e2⟩
        · left; exact ⟨rfl, Lib.hid (by rw [hfit, hv]; rfl)⟩
        · right; exact ⟨rfl, Lib.hid (by rw [hfit, hv]; rfl)⟩
      have hcase : (12 < e2 ∧ c2 ≤ 2000000000000 ∧ 999999999 < c2 * 10) ∨ e2 ≤ 12 := by
        by_cases g : 12 < e2
        · left; have := q6.out g; exact ⟨g, this, by omega⟩
        · right; omega
      clear hgo hfit q5 q6
      rcases HV with ⟨hv, HV⟩ | ⟨hv, HV⟩
      · rcases hcase with ⟨g3, g4, g5⟩ | g3
        all_goals
          go_wp2_with (go_at_call 47; refine (validS_any _ _ _ _).mono ?_; rintro r w1 ⟨rfl, hb⟩; obtain ⟨hc, hf⟩ := bcell hb; have hB : Below w.heap.size w w1 := (by refine Below.trans ?_ (hb.mono (by first | omega | (simp; done) | (simp <;> omega))); repeat (first | with_reducible exact Below.refl _ _ | with_reducible assumption | with_reducible refine Below.setCell ?_ (by first | omega | (simp; done) | (simp <;> omega)) _ | with_reducible refine below_drewN ?_ _ | with_reducible refine Below.drew ?_ | with_reducible refine Below.alloc ?_ (by first | omega | (simp; done) | (simp <;> omega)) _)); have hz := hb.size; (try simp at hz); (try have hz0 : w.heap.size < w1.heap.size := by omega); (try have hz1 : w.heap.size + 1 < w1.heap.size := by omega); (try have hz2 : w.heap.size + 1 + 1 < w1.heap.size := by omega))
          exact bodyPost_ret (v := .tuple #[.agg #[.bool false, .int .i64 0, .int .i64 0], .bool false]) (by simp [results, Tryz.results186, go_sem, hc]) rfl ⟨by rw [HV.out]; rfl, (by repeat (first | with_reducible exact Below.refl _ _ | with_reducible assumption | with_reducible refine Below.setCell ?_ (by first | omega | (simp; done) | (simp <;> omega)) _ | with_reducible refine below_drewN ?_ _ | with_reducible refine Below.drew ?_ | with_reducible refine Below.alloc ?_ (by first | omega | (simp; done) | (simp <;> omega)) _))⟩
      · rcases hcase with ⟨g3, g4, g5⟩ | g3
        all_goals
          go_wp2_with (go_at_call 47; refine (validS_any _ _ _ _).mono ?_; rintro r w1 ⟨rfl, hb⟩; obtain ⟨hc, hf⟩ := bcell hb; have hB : Below w.heap.size w w1 := (by refine Below.trans ?_ (hb.mono (by first | omega | (simp; done) | (simp <;> omega))); repeat (first | with_reducible exact Below.refl _ _ | with_reducible assumption | with_reducible refine Below.setCell ?_ (by first | omega | (simp; done) | (simp <;> omega)) _ | with_reducible refine below_drewN ?_ _ | with_reducible refine Below.drew ?_ | with_reducible refine Below.alloc ?_ (by first | omega | (simp; done) | (simp <;> omega)) _)); have hz := hb.size; (try simp at hz); (try have hz0 : w.heap.size < w1.heap.size := by omega); (try have hz1 : w.heap.size + 1 < w1.heap.size := by omega); (try have hz2 : w.heap.size + 1 + 1 < w1.heap.size := by omega))
          exact bodyPost_ret (v := .tuple #[.agg #[.bool n, .int .i64 c2, .int .i64 e2], .bool true]) (by simp [results, Tryz.results186, go_sem, hc]) rfl ⟨by rw [HV.out], (by repeat (first | with_reducible exact Below.refl _ _ | with_reducible assumption | with_reducible refine Below.setCell ?_ (by first | omega | (simp; done) | (simp <;> omega)) _ | with_reducible refine below_drewN ?_ _ | with_reducible refine Below.drew ?_ | with_reducible refine Below.alloc ?_ (by first | omega | (simp; done) | (simp <;> omega)) _))⟩
/-- what fits, fits by either way -/
theorem fit2_fit1 {n : Bool} {c e : Int} (h0 : 0 ≤ c) (hc : c % 10 ≠ 0) : Fd.fit2 ⟨n, c, e⟩ = Fd.fit1 ⟨n, c, e⟩ := by
  have hn : Fd.normal2 ⟨n, c, e⟩ = ⟨n, c, e⟩ := by
    unfold Fd.normal2
    rw [if_neg (by show ¬ c = 0; omega)]
    show Fd.D.mk n (Fd.strip2 c e).1 (Fd.strip2 c e).2 = _
    rw [Fd.strip2_no hc]
  by_cases he : -24 ≤ e
  · rw [← Fd.fit_eq ⟨n, c, e⟩ h0 he, hn]
  · have hv : Fd.vld ⟨n, c, e⟩ = false := by
      rw [← Bool.not_eq_true, Fd.vld_iff]
      rintro ⟨_, _, h, _⟩
      simp only at h
      omega
    unfold Fd.fit2
    simp only
    rw [Fd.grow2_no (by omega), hv]
    have hz : c ≠ 0 := by omega
    rw [Fd.fit1_of (n := n) hz (Fd.strip1_no (by omega)) (Fd.grow1_no (by omega)), hv]
theorem vRun_snoc (b : UInt8) : ∀ (l : List UInt8) (n : Int), 0 ≤ vRun 10 (l ++ [b]) n → ∃ m : Int, 0 ≤ m ∧ 48 ≤ b.toNat ∧ b.toNat ≤ 57 ∧ vRun 10 (l ++ [b]) n = m * 10 + ((b.toNat : Int) - 48) ∨ n < 0
  | [], n, h => by
    by_cases hn : n < 0
    · exact ⟨0, .inr hn⟩
    · refine ⟨n, .inl ?_⟩
      rw [List.nil_append, vRun] at h ⊢
      by_cases h1 : dg b.toNat ≥ 10
      · rw [if_pos h1] at h; omega
      · rw [if_neg h1] at h ⊢
        obtain ⟨d0, d1, d2⟩ := dg_small h1
        by_cases h2 : n * 10 + dg b.toNat > 999999999999
        · rw [if_pos h2] at h; omega
        · rw [if_neg h2]
          refine ⟨by omega, d0, d1, ?_⟩
          show n * 10 + dg b.toNat = _
          rw [d2]
  | c :: l, n, h => by
    by_cases hn : n < 0
    · exact ⟨0, .inr hn⟩
    · rw [List.cons_append, vRun] at h ⊢
      split at h
      · omega
      · rename_i h1
        rw [if_neg h1]
        split at h
        · omega
        · rename_i h2
          rw [if_neg h2]
          obtain ⟨m, hm⟩ := vRun_snoc b l _ h
          refine ⟨m, hm.elim .inl (fun h3 => ?_)⟩
          exfalso
          have := dg_ge c.toNat
          omega
/-- what is left of digits without zeros at the end ends in no zero -/
theorem trim_mod {D : List UInt8} (hne : trR 48 D ≠ []) (hv : 0 ≤ vRun 10 (trR 48 D) 0) : vRun 10 (trR 48 D) 0 % 10 ≠ 0 := by
  obtain ⟨x, b, e, hb⟩ := trR_last hne
  rw [e] at hv ⊢
  obtain ⟨m, ⟨m0, d0, d1, he⟩ | h⟩ := vRun_snoc b x 0 hv
  · rw [he]
    have : b.toNat ≠ 48 := fun h => hb (UInt8.toNat_inj.1 h)
    omega
  · omega
theorem all_trim {D : List UInt8} (h : ∀ x ∈ D, 48 ≤ x.toNat ∧ x.toNat ≤ 57) : ∀ x ∈ trR 48 D, 48 ≤ x.toNat ∧ x.toNat ≤ 57 := fun x hx => trR_dg (l := D) h x hx
theorem nt_none {D : List UInt8} (h : ∀ x ∈ D, 48 ≤ x.toNat ∧ x.toNat ≤ 57) : ntB (trR 48 D) = decide (trR 48 D = []) := by
  have hd := all_trim h
  rw [nt_zd hd]
  by_cases hn : trR 48 D = []
  · rw [hn]; rfl
  · rw [decide_eq_false hn]
    obtain ⟨x, b, e, hb⟩ := trR_last hn
    rw [e]
    unfold zdB
    rw [List.all_append]
    simp [hb]
set_option maxRecDepth 100000 in
set_option maxHeartbeats 8000000 in
theorem fromDigitsS_any (neg : Bool) (D : List UInt8) (e : Int) (w : World) (hl : D.length ≤ 80) (he : -250 ≤ e ∧ e ≤ 250) :
    Calls Tryz.prog 118 #[.bool neg, .string ⟨D.toArray⟩, .int .i64 e] w fun r w' => r = .returned (rV (fdF neg D e)) ∧ Below w.heap.size w w' := by
  have zb := C3.new w (.bool false) (.int .i64 0) (.int .i64 0) 24
  have hB0 : Below w.heap.size w (w.alloc (.cells #[.bool false, .int .i64 0, .int .i64 0] 24)) := Below.alloc (Below.refl _ _) (Nat.le_refl _) _
  have zz := zb
  obtain ⟨y0, y1, y2, y3, y4, y5, y6⟩ := zz
  generalize hR : fdF neg D e = F
  have HR := Lib.hid hR
  clear hR
  have hsz : (⟨D.toArray⟩ : ByteArray).size = D.length := rfl
  go_enter Tryz.func118, Tryz.ntmps118
  go_wp2
  go_loopg [8] D.length (fun g s8 wr => ∃ k : Nat, wr = w.alloc (.cells #[.bool false, .int .i64 0, .int .i64 0] 24) ∧ s8 = .int .i64 k ∧ k ≤ D.length ∧ Aside (∀ x ∈ D.take k, 48 ≤ x.toNat ∧ x.toNat ≤ 57) ∧ Aside (g = D.length - k))
  case atStart => exact ⟨0, rfl, rfl, by omega, by show ∀ x ∈ D.take 0, _; simp, by show _ = _; omega⟩
  case round =>
    obtain ⟨k, rfl, rfl, hk, hd, hg⟩ := hrel
    have hg' := hg.out
    have hd' := hd.out
    clear hg hd
    by_cases hlt : k < D.length
    · have i1 : (k : Int) < D.length := by omega
      have i2 : k < (⟨D.toArray⟩ : ByteArray).size := hlt
      have hx : (⟨D.toArray⟩ : ByteArray)[k] = D[k] := rfl
      by_cases hb : 48 ≤ D[k].toNat ∧ D[k].toNat ≤ 57
      · have n1 : ¬ (((⟨D.toArray⟩ : ByteArray)[k].toNat : Int) < 48) := by rw [hx]; omega
        have n2 : ¬ ((57 : Int) < ((⟨D.toArray⟩ : ByteArray)[k].toNat : Int)) := by rw [hx]; omega
        have hnx : ∀ x ∈ D.take (k + 1), 48 ≤ x.toNat ∧ x.toNat ≤ 57 := by
          intro x hx2
          rw [List.take_succ_eq_append_getElem hlt] at hx2
          rcases List.mem_append.1 hx2 with h | h
          · exact hd' x h
          · simp only [List.mem_singleton] at h
            subst h
            exact hb
        have HN := Lib.hid hnx
        clear hnx hd' hx hb
        go_wp2
        go_roundg (D.length - (k + 1))
        case measure => omega
        case rel => exact ⟨k + 1, rfl, by go_num, by omega, HN.out, rfl⟩
      · have hbad : dg D[k].toNat ≥ 10 := by
          rcases Int.lt_or_le (dg D[k].toNat) 10 with h | h
          · exact absurd ⟨(dg_small (by omega)).1, (dg_small (by omega)).2.1⟩ hb
          · exact h
        have HF := Lib.hid (HR.out.symm.trans (fd_bad (neg := neg) (e := e) (List.getElem_mem hlt) hbad))
        clear hd' hbad
        by_cases hlo : D[k].toNat < 48
        · have n1 : (((⟨D.toArray⟩ : ByteArray)[k].toNat : Int) < 48) := by rw [hx]; omega
          clear hb hx
          go_wp2
          exact bodyPost_ret (v := .tuple #[.agg #[.bool false, .int .i64 0, .int .i64 0], .bool false]) (by simp [results, Tryz.results118, go_sem, *]) rfl ⟨by rw [HF.out]; rfl, (by repeat (first | with_reducible exact Below.refl _ _ | with_reducible assumption | with_reducible refine Below.setCell ?_ (by first | omega | (simp; done) | (simp <;> omega)) _ | with_reducible refine below_drewN ?_ _ | with_reducible refine Below.drew ?_ | with_reducible refine Below.alloc ?_ (by first | omega | (simp; done) | (simp <;> omega)) _))⟩
        · have n1 : ¬ (((⟨D.toArray⟩ : ByteArray)[k].toNat : Int) < 48) := by rw [hx]; omega
          have n2 : ((57 : Int) < ((⟨D.toArray⟩ : ByteArray)[k].toNat : Int)) := by rw [hx]; omega
          clear hb hx
          go_wp2
          exact bodyPost_ret (v := .tuple #[.agg #[.bool false, .int .i64 0, .int .i64 0], .bool false]) (by simp [results, Tryz.results118, go_sem, *]) rfl ⟨by rw [HF.out]; rfl, (by repeat (first | with_reducible exact Below.refl _ _ | with_reducible assumption | with_reducible refine Below.setCell ?_ (by first | omega | (simp; done) | (simp <;> omega)) _ | with_reducible refine below_drewN ?_ _ | with_reducible refine Below.drew ?_ | with_reducible refine Below.alloc ?_ (by first | omega | (simp; done) | (simp <;> omega)) _))⟩
    · obtain rfl : k = D.length := by omega
      rw [List.take_length] at hd'
      have k1 := fun W => trimmedS_any ⟨D.toArray⟩ (by show D.length ≤ _; omega) W
      rw [show trRB 48 ⟨D.toArray⟩ = ⟨(trR 48 D).toArray⟩ from rfl] at k1
      have rl := trR_len 48 D
      have k2 := fun W => nothingS_any ⟨(trR 48 D).toArray⟩ (by show (trR 48 D).length ≤ _; omega) W
      rw [show (⟨(trR 48 D).toArray⟩ : ByteArray).data.toList = trR 48 D from rfl, nt_none hd'] at k2
      have i1 : ¬ ((D.length : Int) < D.length) := by omega
      by_cases hD : D = []
      · subst hD
        have HF : Hid (F = (Fd.D.z, false)) := Lib.hid (HR.out.symm.trans rfl)
        clear k1 k2 hd'
        go_wp2
        exact bodyPost_ret (v := .tuple #[.agg #[.bool false, .int .i64 0, .int .i64 0], .bool false]) (by simp [results, Tryz.results118, go_sem, *]) rfl ⟨by rw [HF.out]; rfl, (by repeat (first | with_reducible exact Below.refl _ _ | with_reducible assumption | with_reducible refine Below.setCell ?_ (by first | omega | (simp; done) | (simp <;> omega)) _ | with_reducible refine below_drewN ?_ _ | with_reducible refine Below.drew ?_ | with_reducible refine Below.alloc ?_ (by first | omega | (simp; done) | (simp <;> omega)) _))⟩
      · have q0 : D.isEmpty = false := by rw [List.isEmpty_eq_false_iff]; exact hD
        by_cases hT : trR 48 D = []
        · rw [hT] at k1 k2
          have HF : Hid (F = (Fd.D.z, true)) := Lib.hid (by
            rw [← HR.out]
            unfold fdF
            rw [if_neg hD, hT, show vRun 10 [48] 0 = 0 from by rw [vRun_48]; rfl, if_neg (by omega)]
            exact Fd.fit_cz _ _)
          have K1 := Lib.hid k1; have K2 := Lib.hid k2
          clear k1 k2 hd' hD hT rl
          go_wp2_with (first | (go_at_call 113; (with_reducible refine Calls.mono (K1.out _) ?_); rintro r w1 ⟨rfl, rfl⟩) | (go_at_call 184; (with_reducible refine Calls.mono (K2.out _) ?_); rintro r w1 ⟨rfl, hb⟩; replace hB0 := hB0.trans (hb.mono hB0.size); have hz := hB0.size; replace zb := C3.carry zb hb; have zz := zb; obtain ⟨y0, y1, y2, y3, y4, y5, y6⟩ := zz))
          exact bodyPost_ret (v := .tuple #[.agg #[.bool false, .int .i64 0, .int .i64 0], .bool true]) (by simp [results, Tryz.results118, go_sem, *]) rfl ⟨by rw [HF.out]; rfl, (by repeat (first | with_reducible exact Below.refl _ _ | with_reducible assumption | with_reducible refine Below.setCell ?_ (by first | omega | (simp; done) | (simp <;> omega)) _ | with_reducible refine below_drewN ?_ _ | with_reducible refine Below.drew ?_ | with_reducible refine Below.alloc ?_ (by first | omega | (simp; done) | (simp <;> omega)) _))⟩
        · have k3 := fun W => valueInS_any ⟨(trR 48 D).toArray⟩ 10 (by show (trR 48 D).length ≤ _; omega) ⟨by omega, by omega⟩ W
          rw [show valW ⟨(trR 48 D).toArray⟩ 10 = vRun 10 (trR 48 D) 0 by
            unfold valW
            rw [if_neg (show ¬ (⟨(trR 48 D).toArray⟩ : ByteArray).size = 0 from fun h => hT (List.length_eq_zero_iff.1 h)), if_neg (by omega), if_neg (by omega)]] at k3
          rw [decide_eq_false hT] at k2
          have hv := vRun_rng (trR 48 D) 0 (by omega) (by omega)
          by_cases hv0 : vRun 10 (trR 48 D) 0 < 0
          · have HF : Hid (F = (Fd.D.z, false)) := Lib.hid (by
              rw [← HR.out]
              unfold fdF
              rw [if_neg hD, vRun_48, if_pos hv0])
            generalize vRun 10 (trR 48 D) 0 = v at *
            generalize trR 48 D = R at *
            have K1 := Lib.hid k1; have K2 := Lib.hid k2; have K3 := Lib.hid k3
            clear k1 k2 k3 hd' hD hT rl
            go_wp2_with (first | (go_at_call 113; (with_reducible refine Calls.mono (K1.out _) ?_); rintro r w1 ⟨rfl, rfl⟩) | (go_at_call 184; (with_reducible refine Calls.mono (K2.out _) ?_); rintro r w1 ⟨rfl, hb⟩; replace hB0 := hB0.trans (hb.mono hB0.size); have hz := hB0.size; replace zb := C3.carry zb hb; have zz := zb; obtain ⟨y0, y1, y2, y3, y4, y5, y6⟩ := zz) | (go_at_call 185; (with_reducible refine Calls.mono (K3.out _) ?_); rintro r w1 ⟨rfl, rfl⟩))
            exact bodyPost_ret (v := .tuple #[.agg #[.bool false, .int .i64 0, .int .i64 0], .bool false]) (by simp [results, Tryz.results118, go_sem, *]) rfl ⟨by rw [HF.out]; rfl, (by repeat (first | with_reducible exact Below.refl _ _ | with_reducible assumption | with_reducible refine Below.setCell ?_ (by first | omega | (simp; done) | (simp <;> omega)) _ | with_reducible refine below_drewN ?_ _ | with_reducible refine Below.drew ?_ | with_reducible refine Below.alloc ?_ (by first | omega | (simp; done) | (simp <;> omega)) _))⟩
          · have hm := trim_mod hT (by omega)
            have hfit := fit2_fit1 (n := neg) (e := e + (D.length : Int) - (trR 48 D).length) (show 0 ≤ vRun 10 (trR 48 D) 0 by omega) hm
            have k4 := fun W => fittedSW_any neg (vRun 10 (trR 48 D) 0) (e + (D.length : Int) - (trR 48 D).length) W (by omega) (by omega) (by omega) (by omega) (by intro; omega)
            rw [hfit] at k4
            have HF : Hid (F = Fd.fit1 ⟨neg, vRun 10 (trR 48 D) 0, e + (D.length : Int) - (trR 48 D).length⟩) := Lib.hid (by
              rw [← HR.out]
              unfold fdF
              rw [if_neg hD, vRun_48, if_neg hv0])
            generalize Fd.fit1 ⟨neg, vRun 10 (trR 48 D) 0, e + (D.length : Int) - (trR 48 D).length⟩ = G at *
            clear hfit hm
            generalize vRun 10 (trR 48 D) 0 = v at *
            generalize trR 48 D = R at *
            have K1 := Lib.hid k1; have K2 := Lib.hid k2; have K3 := Lib.hid k3; have K4 := Lib.hid k4
            clear k1 k2 k3 k4 hd' hD hT
            go_wp2_with (first | (go_at_call 113; (with_reducible refine Calls.mono (K1.out _) ?_); rintro r w1 ⟨rfl, rfl⟩) | (go_at_call 184; (with_reducible refine Calls.mono (K2.out _) ?_); rintro r w1 ⟨rfl, hb⟩; replace hB0 := hB0.trans (hb.mono hB0.size); have hz := hB0.size; replace zb := C3.carry zb hb; have zz := zb; obtain ⟨y0, y1, y2, y3, y4, y5, y6⟩ := zz) | (go_at_call 185; (with_reducible refine Calls.mono (K3.out _) ?_); rintro r w1 ⟨rfl, rfl⟩) | (go_at_call 186; (with_reducible refine Calls.mono (K4.out _) ?_); rintro r w1 ⟨rfl, hb⟩; replace hB0 := hB0.trans (hb.mono hB0.size); have hz := hB0.size; replace zb := C3.carry zb hb; have zz := zb; obtain ⟨y0, y1, y2, y3, y4, y5, y6⟩ := zz))
            have s0 := y0; have s1 := y1; have s2 := y2
            obtain ⟨t0, t1, t2⟩ := set3 y0 y1 y2 (.bool G.1.n) (.int .i64 G.1.c) (.int .i64 G.1.e)
            exact bodyPost_ret (v := .tuple #[.agg #[.bool G.1.n, .int .i64 G.1.c, .int .i64 G.1.e], .bool G.2]) (by simp [results, Tryz.results118, go_sem, *]) rfl ⟨by rw [HF.out]; rfl, (by repeat (first | with_reducible exact Below.refl _ _ | with_reducible assumption | with_reducible refine Below.setCell ?_ (by first | omega | (simp; done) | (simp <;> omega)) _ | with_reducible refine below_drewN ?_ _ | with_reducible refine Below.drew ?_ | with_reducible refine Below.alloc ?_ (by first | omega | (simp; done) | (simp <;> omega)) _))⟩
end Go.Proofs.YtebheehjhnaklaaGreatDoor
namespace Go.Proofs.YtebheehjhnaklaaGreatDoor
open Go Go.RowKit
theorem valW_pwM (m : List UInt8) : valW ⟨m.toArray⟩ 10 = pwM m := by
  unfold valW pwM
  by_cases h : m = []
  · subst h; rfl
  · rw [if_neg (show ¬ (⟨m.toArray⟩ : ByteArray).size = 0 from fun e => h (List.length_eq_zero_iff.1 e)), if_neg (by omega), if_neg (by omega), if_neg h]
theorem pwM_rng (t : List UInt8) : -1 ≤ pwM t ∧ pwM t ≤ 999999999999 := by
  unfold pwM
  split
  · omega
  · exact vRun_rng t 0 (by omega) (by omega)
def spV (d : List UInt8) (p : Int) (ok : Bool) : Value := .tuple #[.string ⟨d.toArray⟩, .int .i64 p, .bool ok]
theorem split_none (T : List UInt8) (hl : T.length ≤ 80) (h : atS T < 0) (w : World) :
    Calls Tryz.prog 116 #[.string ⟨T.toArray⟩] w fun r w' => r = .returned (spV T 0 true) ∧ w = w' := by
  have k1 := fun W => indexOfS_any ⟨T.toArray⟩ 101 (by show T.length ≤ _; omega) W
  have k2 := fun W => indexOfS_any ⟨T.toArray⟩ 69 (by show T.length ≤ _; omega) W
  rw [show (⟨T.toArray⟩ : ByteArray).data.toList = T from rfl, show (((101 : UInt8).toNat : Nat) : Int) = 101 from rfl] at k1
  rw [show (⟨T.toArray⟩ : ByteArray).data.toList = T from rfl, show (((69 : UInt8).toNat : Nat) : Int) = 69 from rfl] at k2
  unfold atS at h
  generalize Lib.indexByte T 101 = a at *
  generalize Lib.indexByte T 69 = b at *
  have K1 := Lib.hid k1; have K2 := Lib.hid k2
  clear k1 k2
  go_enter Tryz.func116, Tryz.ntmps116
  go_wp2_with (first | (go_at_call 117; (with_reducible refine Calls.mono (K1.out _) ?_); rintro r w1 ⟨rfl, rfl⟩) | (go_at_call 117; (with_reducible refine Calls.mono (K2.out _) ?_); rintro r w1 ⟨rfl, rfl⟩))
  exact bodyPost_ret (v := .tuple #[.string ⟨T.toArray⟩, .int .i64 0, .bool true]) (by simp [results, Tryz.results116, go_sem, *]) rfl ⟨rfl, rfl⟩
set_option maxRecDepth 100000 in
set_option maxHeartbeats 8000000 in
theorem split_some (T q : List UInt8) (k : Nat) (hl : T.length ≤ 80) (h : atS T = k) (hk : k < T.length) (hq : T.drop (k + 1) = q) (w : World) :
    Calls Tryz.prog 116 #[.string ⟨T.toArray⟩] w fun r w' => r = .returned (if pwOk q then spV (T.take k) (pwV q) true else spV [] 0 false) ∧ w = w' := by
  have k1 := fun W => indexOfS_any ⟨T.toArray⟩ 101 (by show T.length ≤ _; omega) W
  have k2 := fun W => indexOfS_any ⟨T.toArray⟩ 69 (by show T.length ≤ _; omega) W
  rw [show (⟨T.toArray⟩ : ByteArray).data.toList = T from rfl, show (((101 : UInt8).toNat : Nat) : Int) = 101 from rfl] at k1
  rw [show (⟨T.toArray⟩ : ByteArray).data.toList = T from rfl, show (((69 : UInt8).toNat : Nat) : Int) = 69 from rfl] at k2
  unfold atS at h
  generalize Lib.indexByte T 101 = a at *
  generalize Lib.indexByte T 69 = b at *
  have e1 := ext_take k T
  have e2 := ext_drop (k + 1) T
  rw [hq] at e2
  have ql : q.length ≤ 80 := by rw [← hq, List.length_drop]; omega
  have i1 : (k : Int) + 1 ≤ T.length := by omega
  have i2 : (k : Int) ≤ T.length := by omega
  have i3 : ¬ ((k : Int) < 0) := by omega
  generalize T.take k = d at *
  clear hq
  rcases q with _ | ⟨c, t⟩
  · have kv := fun W => valueInS_any ⟨#[]⟩ 10 (by decide) ⟨by omega, by omega⟩ W
    rw [show valW ⟨#[]⟩ 10 = -1 from rfl] at kv
    rw [show pwOk [] = false from rfl]
    have K1 := Lib.hid k1; have K2 := Lib.hid k2; have KV := Lib.hid kv
    clear k1 k2 kv
    go_enter Tryz.func116, Tryz.ntmps116
    go_wp2_with (first | (go_at_call 117; (with_reducible refine Calls.mono (K1.out _) ?_); rintro r w1 ⟨rfl, rfl⟩) | (go_at_call 117; (with_reducible refine Calls.mono (K2.out _) ?_); rintro r w1 ⟨rfl, rfl⟩) | (go_at_call 185; (with_reducible refine Calls.mono (KV.out _) ?_); rintro r w1 ⟨rfl, rfl⟩))
    exact bodyPost_ret (v := .tuple #[.string ⟨#[]⟩, .int .i64 0, .bool false]) (by simp [results, Tryz.results116, go_sem, *]) rfl ⟨rfl, rfl⟩
  · have kt := fun W => valueInS_any ⟨t.toArray⟩ 10 (by show t.length ≤ _; simp at ql; omega) ⟨by omega, by omega⟩ W
    have kq := fun W => valueInS_any ⟨(c :: t).toArray⟩ 10 (by show (c :: t).length ≤ _; omega) ⟨by omega, by omega⟩ W
    rw [valW_pwM] at kt kq
    have hcut := ext_rest c t
    have h0 : ((⟨(c :: t).toArray⟩ : ByteArray)[0]'(by show 0 < (c :: t).length; simp)) = c := rfl
    have hsz : (⟨(c :: t).toArray⟩ : ByteArray).size = t.length + 1 := rfl
    have hne : (⟨(c :: t).toArray⟩ : ByteArray).toList.isEmpty = false := nonempty_list (by show 1 ≤ (c :: t).length; simp)
    have tl : t.length ≤ 79 := by simp at ql; omega
    have K1 := Lib.hid k1; have K2 := Lib.hid k2; have KT := Lib.hid kt; have KQ := Lib.hid kq
    clear k1 k2 kt kq
    have hx : (((⟨(c :: t).toArray⟩ : ByteArray)[0]'(by show 0 < (c :: t).length; simp)).toNat : Int) = (c.toNat : Int) := by rw [h0]
    by_cases hc : c = 45
    · subst hc
      have hpw : pwOk (45 :: t) = (decide (0 ≤ pwM t) && decide (pwM t ≤ 99)) := rfl
      have hpv : pwV (45 :: t) = - pwM t := rfl
      rw [hpw, hpv]
      have hM : -1 ≤ pwM t ∧ pwM t ≤ 999999999999 := pwM_rng t
      generalize pwM t = M at *
      have hb : (((⟨(45 :: t).toArray⟩ : ByteArray)[0]'(by show 0 < (45 :: t).length; simp)).toNat : Int) = 45 := by rw [hx]; rfl
      clear hx h0 hpw hpv
      by_cases hok : 0 ≤ M ∧ M ≤ 99
      · rw [show (decide (0 ≤ M) && decide (M ≤ 99)) = true by simp [hok], if_pos rfl]
        have j1 : ¬ M < 0 := by omega
        have j2 : ¬ 99 < M := by omega
        clear hok
        go_enter Tryz.func116, Tryz.ntmps116
        go_wp2_with (first | (go_at_call 117; (with_reducible refine Calls.mono (K1.out _) ?_); rintro r w1 ⟨rfl, rfl⟩) | (go_at_call 117; (with_reducible refine Calls.mono (K2.out _) ?_); rintro r w1 ⟨rfl, rfl⟩) | (go_at_call 185; (with_reducible refine Calls.mono (KT.out _) ?_); rintro r w1 ⟨rfl, rfl⟩) | (go_at_call 185; (with_reducible refine Calls.mono (KQ.out _) ?_); rintro r w1 ⟨rfl, rfl⟩))
        exact bodyPost_ret (v := .tuple #[.string ⟨d.toArray⟩, .int .i64 (-M), .bool true]) (by simp [results, Tryz.results116, go_sem, *]) rfl ⟨rfl, rfl⟩
      · rw [show (decide (0 ≤ M) && decide (M ≤ 99)) = false by simp; omega, if_neg (by decide)]
        have j1 : M < 0 ∨ (¬ M < 0 ∧ 99 < M) := by omega
        clear hok
        rcases j1 with j1 | ⟨j1, j2⟩
        all_goals
          go_enter Tryz.func116, Tryz.ntmps116
          go_wp2_with (first | (go_at_call 117; (with_reducible refine Calls.mono (K1.out _) ?_); rintro r w1 ⟨rfl, rfl⟩) | (go_at_call 117; (with_reducible refine Calls.mono (K2.out _) ?_); rintro r w1 ⟨rfl, rfl⟩) | (go_at_call 185; (with_reducible refine Calls.mono (KT.out _) ?_); rintro r w1 ⟨rfl, rfl⟩) | (go_at_call 185; (with_reducible refine Calls.mono (KQ.out _) ?_); rintro r w1 ⟨rfl, rfl⟩))
          exact bodyPost_ret (v := .tuple #[.string ⟨#[]⟩, .int .i64 0, .bool false]) (by simp [results, Tryz.results116, go_sem, *]) rfl ⟨rfl, rfl⟩
    · have hc45 : ((c.toNat : Int) == 45) = false := by
        rw [beq_eq_false_iff_ne]
        intro e
        exact hc (UInt8.toNat_inj.1 (by have : (45 : UInt8).toNat = 45 := rfl; omega))
      by_cases hc3 : c = 43
      · subst hc3
        have hpw : pwOk (43 :: t) = (decide (0 ≤ pwM t) && decide (pwM t ≤ 99)) := rfl
        have hpv : pwV (43 :: t) = pwM t := rfl
        rw [hpw, hpv]
        have hM : -1 ≤ pwM t ∧ pwM t ≤ 999999999999 := pwM_rng t
        generalize pwM t = M at *
        have hb : (((⟨(43 :: t).toArray⟩ : ByteArray)[0]'(by show 0 < (43 :: t).length; simp)).toNat : Int) = 43 := by rw [hx]; rfl
        clear hx h0 hpw hpv hc hc45
        by_cases hok : 0 ≤ M ∧ M ≤ 99
        · rw [show (decide (0 ≤ M) && decide (M ≤ 99)) = true by simp [hok], if_pos rfl]
          have j1 : ¬ M < 0 := by omega
          have j2 : ¬ 99 < M := by omega
          clear hok
          go_enter Tryz.func116, Tryz.ntmps116
          go_wp2_with (first | (go_at_call 117; (with_reducible refine Calls.mono (K1.out _) ?_); rintro r w1 ⟨rfl, rfl⟩) | (go_at_call 117; (with_reducible refine Calls.mono (K2.out _) ?_); rintro r w1 ⟨rfl, rfl⟩) | (go_at_call 185; (with_reducible refine Calls.mono (KT.out _) ?_); rintro r w1 ⟨rfl, rfl⟩) | (go_at_call 185; (with_reducible refine Calls.mono (KQ.out _) ?_); rintro r w1 ⟨rfl, rfl⟩))
          exact bodyPost_ret (v := .tuple #[.string ⟨d.toArray⟩, .int .i64 M, .bool true]) (by simp [results, Tryz.results116, go_sem, *]) rfl ⟨rfl, rfl⟩
        · rw [show (decide (0 ≤ M) && decide (M ≤ 99)) = false by simp; omega, if_neg (by decide)]
          have j1 : M < 0 ∨ (¬ M < 0 ∧ 99 < M) := by omega
          clear hok
          rcases j1 with j1 | ⟨j1, j2⟩
          all_goals
            go_enter Tryz.func116, Tryz.ntmps116
            go_wp2_with (first | (go_at_call 117; (with_reducible refine Calls.mono (K1.out _) ?_); rintro r w1 ⟨rfl, rfl⟩) | (go_at_call 117; (with_reducible refine Calls.mono (K2.out _) ?_); rintro r w1 ⟨rfl, rfl⟩) | (go_at_call 185; (with_reducible refine Calls.mono (KT.out _) ?_); rintro r w1 ⟨rfl, rfl⟩) | (go_at_call 185; (with_reducible refine Calls.mono (KQ.out _) ?_); rintro r w1 ⟨rfl, rfl⟩))
            exact bodyPost_ret (v := .tuple #[.string ⟨#[]⟩, .int .i64 0, .bool false]) (by simp [results, Tryz.results116, go_sem, *]) rfl ⟨rfl, rfl⟩
      · have hd : pwD (c :: t) = c :: t := by rw [pwD, if_neg (fun h => h.elim hc3 hc)]
        have hpw : pwOk (c :: t) = (decide (0 ≤ pwM (c :: t)) && decide (pwM (c :: t) ≤ 99)) := by unfold pwOk; rw [hd]
        have hpv : pwV (c :: t) = pwM (c :: t) := by
          unfold pwV
          rw [hd, show pwN (c :: t) = (c == 45) from rfl, if_neg (by simpa using hc)]
        rw [hpw, hpv]
        have hM : -1 ≤ pwM (c :: t) ∧ pwM (c :: t) ≤ 999999999999 := pwM_rng _
        generalize pwM (c :: t) = M at *
        have hb : ((((⟨(c :: t).toArray⟩ : ByteArray)[0]'(by show 0 < (c :: t).length; simp)).toNat : Int) == 45) = false := by rw [hx]; exact hc45
        have hb3 : ((((⟨(c :: t).toArray⟩ : ByteArray)[0]'(by show 0 < (c :: t).length; simp)).toNat : Int) == 43) = false := by
          rw [hx, beq_eq_false_iff_ne]
          intro e
          exact hc3 (UInt8.toNat_inj.1 (by have : (43 : UInt8).toNat = 43 := rfl; omega))
        clear hx h0 hpw hpv hc hc45 hc3 hd
        by_cases hok : 0 ≤ M ∧ M ≤ 99
        · rw [show (decide (0 ≤ M) && decide (M ≤ 99)) = true by simp [hok], if_pos rfl]
          have j1 : ¬ M < 0 := by omega
          have j2 : ¬ 99 < M := by omega
          clear hok
          go_enter Tryz.func116, Tryz.ntmps116
          go_wp2_with (first | (go_at_call 117; (with_reducible refine Calls.mono (K1.out _) ?_); rintro r w1 ⟨rfl, rfl⟩) | (go_at_call 117; (with_reducible refine Calls.mono (K2.out _) ?_); rintro r w1 ⟨rfl, rfl⟩) | (go_at_call 185; (with_reducible refine Calls.mono (KT.out _) ?_); rintro r w1 ⟨rfl, rfl⟩) | (go_at_call 185; (with_reducible refine Calls.mono (KQ.out _) ?_); rintro r w1 ⟨rfl, rfl⟩))
          exact bodyPost_ret (v := .tuple #[.string ⟨d.toArray⟩, .int .i64 M, .bool true]) (by simp [results, Tryz.results116, go_sem, *]) rfl ⟨rfl, rfl⟩
        · rw [show (decide (0 ≤ M) && decide (M ≤ 99)) = false by simp; omega, if_neg (by decide)]
          have j1 : M < 0 ∨ (¬ M < 0 ∧ 99 < M) := by omega
          clear hok
          rcases j1 with j1 | ⟨j1, j2⟩
          all_goals
            go_enter Tryz.func116, Tryz.ntmps116
            go_wp2_with (first | (go_at_call 117; (with_reducible refine Calls.mono (K1.out _) ?_); rintro r w1 ⟨rfl, rfl⟩) | (go_at_call 117; (with_reducible refine Calls.mono (K2.out _) ?_); rintro r w1 ⟨rfl, rfl⟩) | (go_at_call 185; (with_reducible refine Calls.mono (KT.out _) ?_); rintro r w1 ⟨rfl, rfl⟩) | (go_at_call 185; (with_reducible refine Calls.mono (KQ.out _) ?_); rintro r w1 ⟨rfl, rfl⟩))
            exact bodyPost_ret (v := .tuple #[.string ⟨#[]⟩, .int .i64 0, .bool false]) (by simp [results, Tryz.results116, go_sem, *]) rfl ⟨rfl, rfl⟩
end Go.Proofs.YtebheehjhnaklaaGreatDoor
namespace Go.Proofs.YtebheehjhnaklaaGreatDoor
open Go Go.RowKit
theorem suf_snoc (x : List UInt8) (b : UInt8) : Lib.hasSuffix (x ++ [b]) [37] = (b == 37) ∧ Lib.trimSuffix (x ++ [b]) [37] = if b = 37 then x else x ++ [b] := by
  have h : Lib.hasSuffix (x ++ [b]) [37] = (b == 37) := by
    unfold Lib.hasSuffix
    rw [Bool.eq_iff_iff, List.isSuffixOf_iff_suffix, beq_iff_eq]
    constructor
    · rintro ⟨y, e⟩
      have := congrArg List.getLast? e
      simp at this
      exact this.symm
    · rintro rfl
      exact ⟨x, rfl⟩
  refine ⟨h, ?_⟩
  unfold Lib.trimSuffix
  rw [h]
  by_cases hb : b = 37
  · rw [if_pos hb, if_pos (by simpa using hb)]
    simp
  · rw [if_neg hb, if_neg (by simpa using hb)]
/-- the model's way to cut the power off, in one -/
theorem split_any (neg hund : Bool) (m : List UInt8) (hl : m.length ≤ 80) : ∃ d p ok, (∀ W, Calls Tryz.prog 116 #[.string ⟨m.toArray⟩] W fun r w' => r = .returned (.tuple #[.string ⟨d.toArray⟩, .int .i64 p, .bool ok]) ∧ W = w') ∧
    ((ok = true ∧ rrM neg hund m = rrFin neg hund d p ∧ d.length ≤ m.length ∧ -99 ≤ p ∧ p ≤ 99) ∨ (ok = false ∧ rrM neg hund m = (Fd.D.z, false))) := by
  by_cases ha : atS m < 0
  · refine ⟨m, 0, true, fun W => split_none m hl ha W, .inl ⟨rfl, ?_, Nat.le_refl _, by omega, by omega⟩⟩
    rw [← rrS_eq]
    unfold rrS
    rw [if_pos ha]
  · obtain ⟨k, hk⟩ := Int.eq_ofNat_of_zero_le (show 0 ≤ atS m by omega)
    have hkl : k < m.length := by
      unfold atS at hk
      rcases ib_cases 101 m with ⟨_, i1⟩ | ⟨x, y, e1, _, i1⟩ <;> rcases ib_cases 69 m with ⟨_, i2⟩ | ⟨x2, y2, e2, _, i2⟩
      · rw [i1, i2] at hk; omega
      · have := congrArg List.length e2; rw [List.length_append, List.length_cons] at this; rw [i1, i2] at hk; omega
      · have := congrArg List.length e1; rw [List.length_append, List.length_cons] at this; rw [i1, i2] at hk; omega
      · have h1 := congrArg List.length e1; rw [List.length_append, List.length_cons] at h1
        have h2 := congrArg List.length e2; rw [List.length_append, List.length_cons] at h2
        rw [i1, i2] at hk; omega
    have hs := fun W => split_some m _ k hl hk hkl rfl W
    have hr : rrM neg hund m = if pwOk (m.drop (k + 1)) then rrFin neg hund (m.take k) (pwV (m.drop (k + 1))) else (Fd.D.z, false) := by
      rw [← rrS_eq]
      unfold rrS
      rw [if_neg ha, hk]
      rfl
    cases hp : pwOk (m.drop (k + 1))
    · rw [hp] at hs hr
      exact ⟨[], 0, false, hs, .inr ⟨rfl, hr⟩⟩
    · rw [hp] at hs hr
      have hv := (atoi_ok hp).2
      exact ⟨_, _, true, hs, .inl ⟨rfl, hr, by rw [List.length_take]; omega, hv.1, hv.2⟩⟩
theorem point_cases (d : List UInt8) : (Lib.indexByte d 46 = -1 ∧ ptA d = d ∧ ptB d = []) ∨ ∃ x y, d = x ++ 46 :: y ∧ Lib.indexByte d 46 = x.length ∧ ptA d = x ∧ ptB d = y := by
  rcases ib_cases 46 d with ⟨h, i⟩ | ⟨x, y, e, h, i⟩
  · have := tw_all (a := d) (fun b hb e => h (e ▸ hb))
    exact .inl ⟨i, this.1, this.2⟩
  · have := tw_mid (x := x) (y := y) (fun b hb e => h (e ▸ hb))
    rw [← e] at this
    exact .inr ⟨x, y, e, i, this.1, this.2⟩
end Go.Proofs.YtebheehjhnaklaaGreatDoor
