import Derived.Test.YtebheehjhnaklaaGreatDoorC7
import Derived.Test.YtebheehjhnaklaaGreatDoorF3
import Derived.Test.YtebheehjhnaklaaGreatDoorRR7
import Derived.Test.YtebheehjhnaklaaGreatDoorF4
import Derived.Test.YtebheehjhnaklaaGreatDoorE13
import Derived.Test.YtebheehjhnaklaaGreatDoorRR9
import Derived.Test.YtebheehjhnaklaaGreatDoorF6
namespace Go.Proofs.YtebheehjhnaklaaGreatDoor
open Go Go.RowKit
/-- what a drop leaves can be fitted -/
theorem drop_bd {n : Bool} {c e k : Int} (h0 : 0 ≤ c) (h1 : c ≤ 999999999) (h2 : -12 ≤ e) (h3 : e ≤ 12) (_h4 : k ≤ 12 - e ∨ k ≤ 9) :
    0 ≤ (Fd.dropI ⟨n, c, e⟩ k).c ∧ (Fd.dropI ⟨n, c, e⟩ k).c ≤ 999999999 ∧ -12 ≤ (Fd.dropI ⟨n, c, e⟩ k).e ∧ (Fd.dropI ⟨n, c, e⟩ k).e ≤ 21 := by
  unfold Fd.dropI
  split
  · exact ⟨h0, h1, by simp only; omega, by simp only; omega⟩
  · split
    · simp [Fd.D.z]
    · have := Fd.rq_bd (c := c) (k := k) h0 (by omega)
      exact ⟨by simp only; omega, by simp only; omega, by simp only; omega, by simp only; omega⟩
set_option maxHeartbeats 16000000 in
theorem RoundDigits_any (n : Bool) (c e p : Int) (w : World) :
    Calls Tryz.prog 14 #[.agg #[.bool n, .int .i64 c, .int .i64 e], .int .i64 p] w fun r w' =>
      r = .returned (.agg #[.bool (Fd.roundDI ⟨n, c, e⟩ p).n, .int .i64 (Fd.roundDI ⟨n, c, e⟩ p).c, .int .i64 (Fd.roundDI ⟨n, c, e⟩ p).e]) ∧ Below w.heap.size w w' := by
  by_cases hk : Fd.vld ⟨n, c, e⟩ = true ∧ 1 ≤ p ∧ p ≤ 9
  · obtain ⟨hv, k1, k2⟩ := hk
    have HF : Hid (Fd.roundDI ⟨n, c, e⟩ p = (Fd.fit1 (Fd.dropI ⟨n, c, e⟩ (Fd.dc c - p))).1) := Lib.hid (by unfold Fd.roundDI; rw [hv, decide_eq_false (by omega), decide_eq_false (by omega)]; rfl)
    obtain ⟨b1, b2, b3, b4⟩ := bounds_of hv
    have hd0 := Fd.dc_nonneg c
    have hd9 := Fd.dc_le9 b2
    obtain ⟨d1, d2, d3, d4⟩ := drop_bd (n := n) (k := Fd.dc c - p) b1 b2 b3 b4 (.inr (by omega))
    have hwr : IntKind.i64.wrap (Fd.dc c - p) = Fd.dc c - p := IntWalk.i64_in _ (by omega)
    go_enter Tryz.func14, Tryz.ntmps14
    go_upto_region 3 with (go_at_call 59; refine (valid_any _ _ _ _).mono ?_; rintro r w1 ⟨rfl, hb⟩; obtain ⟨hc, hf⟩ := bcell hb; have hB : Below w.heap.size w w1 := (by refine Below.trans ?_ (hb.mono (by first | omega | (simp; done) | (simp <;> omega))); repeat (first | with_reducible exact Below.refl _ _ | with_reducible assumption | with_reducible refine Below.setCell ?_ (by first | omega | (simp; done) | (simp <;> omega)) _ | with_reducible refine below_drewN ?_ _ | with_reducible refine Below.drew ?_ | with_reducible refine Below.alloc ?_ (by first | omega | (simp; done) | (simp <;> omega)) _)); have hz := hb.size; (try simp at hz); (try have hz0 : w.heap.size < w1.heap.size := by omega); (try have hz1 : w.heap.size + 1 < w1.heap.size := by omega); (try have hz2 : w.heap.size + 1 + 1 < w1.heap.size := by omega))
    clear hb hz
    generalize w1 = W at *
    go_cut [5] (fun s5 wx => ∃ g : Nat, s5 = .pointer (some ⟨g, 0, none⟩) ∧ wx.cell? ⟨g, 0, none⟩ = some (.bool (Fd.fit1 (Fd.dropI ⟨n, c, e⟩ (Fd.dc c - p))).1.n) ∧ wx.cell? ⟨g, 1, none⟩ = some (.int .i64 (Fd.fit1 (Fd.dropI ⟨n, c, e⟩ (Fd.dc c - p))).1.c) ∧ wx.cell? ⟨g, 2, none⟩ = some (.int .i64 (Fd.fit1 (Fd.dropI ⟨n, c, e⟩ (Fd.dc c - p))).1.e) ∧ (∀ b o, b < W.heap.size → wx.cell? ⟨b, o, none⟩ = W.cell? ⟨b, o, none⟩) ∧ Below W.heap.size W wx)
    case first =>
      have hS0 : (∀ b o, b < W.heap.size → W.cell? ⟨b, o, none⟩ = W.cell? ⟨b, o, none⟩) ∧ Below W.heap.size W W := ⟨fun _ _ _ => rfl, Below.refl _ _⟩; go_region_held3 (fun w_ => (∀ b o, b < W.heap.size → w_.cell? ⟨b, o, none⟩ = W.cell? ⟨b, o, none⟩) ∧ Below W.heap.size W w_) (repeat (first | with_reducible assumption | with_reducible refine keepD ?_ | with_reducible refine keepL ?_ _ | with_reducible refine keepS ?_ (by first | omega | (simp; done) | (simp <;> omega)) _ | with_reducible exact keepA (by with_reducible assumption) hb)) (first | (go_at_call 61; (with_reducible refine Calls.mono (digits_any _ _ _ _ b2) ?_); rintro r w1 ⟨rfl, hb⟩; obtain ⟨hc, hf⟩ := bcell hb; have hz := hb.size; have hm := bmono hb; (try simp at hz); (try simp at hm); (try have hm2 := bmono2 (by with_reducible assumption) hb); have hS1 := keepA (by with_reducible assumption) hb; have hzS := hS1.2.size; (try have hq0 : W.heap.size < w1.heap.size := by omega); (try have hq1 : W.heap.size + 1 < w1.heap.size := by omega); (try have hq2 := Nat.lt_of_succ_le hz)) | (go_at_call 60; (with_reducible refine Calls.mono (dropped_any _ _ _ _ _ b1 b2 (by omega) (by omega) (by omega)) ?_); rintro r w1 ⟨rfl, hb⟩; obtain ⟨hc, hf⟩ := bcell hb; have hz := hb.size; have hm := bmono hb; (try simp at hz); (try simp at hm); (try have hm2 := bmono2 (by with_reducible assumption) hb); have hS1 := keepA (by with_reducible assumption) hb; have hzS := hS1.2.size; (try have hq0 : W.heap.size < w1.heap.size := by omega); (try have hq1 : W.heap.size + 1 < w1.heap.size := by omega); (try have hq2 := Nat.lt_of_succ_le hz)) | (go_at_call 58; (with_reducible refine Calls.mono (fitted_any _ _ _ _ d1 (by omega) (by omega) (by omega)) ?_); rintro r w1 ⟨rfl, hb⟩; obtain ⟨hc, hf⟩ := bcell hb; have hz := hb.size; have hm := bmono hb; (try simp at hz); (try simp at hm); (try have hm2 := bmono2 (by with_reducible assumption) hb); have hS1 := keepA (by with_reducible assumption) hb; have hzS := hS1.2.size; (try have hq0 : W.heap.size < w1.heap.size := by omega); (try have hq1 : W.heap.size + 1 < w1.heap.size := by omega); (try have hq2 := Nat.lt_of_succ_le hz)))
      all_goals go_wp2_with fail
      all_goals go_meet
      all_goals refine ⟨_, rfl, ?_, ?_, ?_, by assumption⟩
      all_goals first
        | (simp [go_sem, *]; done)
        | exact (set3 (a0 := .bool false) (a1 := .int .i64 0) (a2 := .int .i64 0) (by simp [go_sem, *]) (by simp [go_sem, *]) (by simp [go_sem, *]) _ _ _).1
        | exact (set3 (a0 := .bool false) (a1 := .int .i64 0) (a2 := .int .i64 0) (by simp [go_sem, *]) (by simp [go_sem, *]) (by simp [go_sem, *]) _ _ _).2.1
        | exact (set3 (a0 := .bool false) (a1 := .int .i64 0) (a2 := .int .i64 0) (by simp [go_sem, *]) (by simp [go_sem, *]) (by simp [go_sem, *]) _ _ _).2.2
    case rest =>
      obtain ⟨g, rfl, q0, q1, q2, hc2, hb2⟩ := hcut
      have hf2 := (bcell hb2).2
      have hB2 : Below w.heap.size w wc := hB.trans (hb2.mono (by omega))
      go_wp2
      exact bodyPost_ret (v := .agg #[.bool (Fd.fit1 (Fd.dropI ⟨n, c, e⟩ (Fd.dc c - p))).1.n, .int .i64 (Fd.fit1 (Fd.dropI ⟨n, c, e⟩ (Fd.dc c - p))).1.c, .int .i64 (Fd.fit1 (Fd.dropI ⟨n, c, e⟩ (Fd.dc c - p))).1.e]) (by simp [results, Tryz.results14, go_sem, *]) rfl ⟨by rw [HF.out], (by repeat (first | with_reducible exact Below.refl _ _ | with_reducible assumption | with_reducible refine Below.setCell ?_ (by first | omega | (simp; done) | (simp <;> omega)) _ | with_reducible refine below_drewN ?_ _ | with_reducible refine Below.drew ?_ | with_reducible refine Below.alloc ?_ (by first | omega | (simp; done) | (simp <;> omega)) _))⟩
  · have HF : Hid (Fd.roundDI ⟨n, c, e⟩ p = Fd.D.z) := Lib.hid (by
      unfold Fd.roundDI; rw [if_pos]
      cases hv : Fd.vld ⟨n, c, e⟩
      · rfl
      · simp; rw [hv] at hk; simp at hk; omega)
    have hcase : (Fd.vld ⟨n, c, e⟩ = false) ∨ (Fd.vld ⟨n, c, e⟩ = true ∧ p < 1) ∨ (Fd.vld ⟨n, c, e⟩ = true ∧ 1 ≤ p ∧ 9 < p) := by
      cases hv : Fd.vld ⟨n, c, e⟩
      · simp
      · rw [hv] at hk; simp at hk ⊢; omega
    clear hk
    rcases hcase with hv | ⟨hv, k1⟩ | ⟨hv, k1, k2⟩
    all_goals
      go_enter Tryz.func14, Tryz.ntmps14
      go_wp2_with (go_at_call 59; refine (valid_any _ _ _ _).mono ?_; rintro r w1 ⟨rfl, hb⟩; obtain ⟨hc, hf⟩ := bcell hb; have hB : Below w.heap.size w w1 := (by refine Below.trans ?_ (hb.mono (by first | omega | (simp; done) | (simp <;> omega))); repeat (first | with_reducible exact Below.refl _ _ | with_reducible assumption | with_reducible refine Below.setCell ?_ (by first | omega | (simp; done) | (simp <;> omega)) _ | with_reducible refine below_drewN ?_ _ | with_reducible refine Below.drew ?_ | with_reducible refine Below.alloc ?_ (by first | omega | (simp; done) | (simp <;> omega)) _)); have hz := hb.size; (try simp at hz); (try have hz0 : w.heap.size < w1.heap.size := by omega); (try have hz1 : w.heap.size + 1 < w1.heap.size := by omega); (try have hz2 : w.heap.size + 1 + 1 < w1.heap.size := by omega))
      exact bodyPost_ret (v := .agg #[.bool false, .int .i64 0, .int .i64 0]) (by simp [results, Tryz.results14, go_sem, *]) rfl ⟨by rw [HF.out]; rfl, (by repeat (first | with_reducible exact Below.refl _ _ | with_reducible assumption | with_reducible refine Below.setCell ?_ (by first | omega | (simp; done) | (simp <;> omega)) _ | with_reducible refine below_drewN ?_ _ | with_reducible refine Below.drew ?_ | with_reducible refine Below.alloc ?_ (by first | omega | (simp; done) | (simp <;> omega)) _))⟩
end Go.Proofs.YtebheehjhnaklaaGreatDoor
namespace Go.Proofs.YtebheehjhnaklaaGreatDoor
open Go Go.RowKit
theorem pt_of {A : List UInt8} (B : List UInt8) (hA : ∀ b, b ∈ A → IsDg b) : ptA (ptL A B) = A ∧ ptB (ptL A B) = B := by
  obtain ⟨c1, c2⟩ := cut_46 (ptL A B)
  obtain ⟨d1, d2⟩ := cut_pt (A := A) (B := B) hA
  exact ⟨c1.symm.trans d1, c2.symm.trans d2⟩
theorem fin_pt (neg hund : Bool) {A : List UInt8} (B : List UInt8) (p : Int) (hA : ∀ b, b ∈ A → IsDg b) (h0 : 1 ≤ A.length) :
    rrFin neg hund (ptL A B) p = if vRun 10 (48 :: trR 48 (A ++ B)) 0 < 0 then (Fd.D.z, false)
      else Fd.fit1 ⟨neg, vRun 10 (48 :: trR 48 (A ++ B)) 0, p + ((A ++ B).length : Int) - (trR 48 (A ++ B)).length - (B.length : Int) - (if hund then 2 else 0)⟩ := by
  obtain ⟨e1, e2⟩ := pt_of B hA
  unfold rrFin
  rw [e1, e2, if_neg]
  intro h
  have := congrArg List.length h
  rw [List.length_append, List.length_nil] at this
  omega
theorem pdL_split (m : Nat) : ∃ k, pdL m = zeros k ++ digs false 10 m := by
  unfold pdL
  by_cases h : m < 10
  · exact ⟨1, by rw [if_pos h]; rfl⟩
  · exact ⟨0, by rw [if_neg h]; rfl⟩
theorem pdL_dgF (m : Nat) : ∀ b, b ∈ pdL m → IsDg b := by
  intro b hb
  obtain ⟨k, hk⟩ := pdL_split m
  rw [hk, List.mem_append] at hb
  rcases hb with hb | hb
  · exact zeros_dg k b hb
  · exact digs_dgF m b hb
theorem pdL_ne (m : Nat) : pdL m ≠ [] := by
  obtain ⟨k, hk⟩ := pdL_split m
  obtain ⟨X, hX⟩ := digs_snoc m
  rw [hk, hX]
  simp
theorem pow_val {pw : Int} (h0 : -99 ≤ pw) (h1 : pw ≤ 99) : pwOk (sgn1 pw ++ pdL pw.natAbs) = true ∧ pwV (sgn1 pw ++ pdL pw.natAbs) = pw := by
  have hm : pwM (pdL pw.natAbs) = (pw.natAbs : Int) := by
    unfold pwM
    rw [if_neg (pdL_ne _)]
    obtain ⟨k, hk⟩ := pdL_split pw.natAbs
    rw [hk]
    exact vRun_zd k _ (by omega)
  by_cases hn : pw < 0
  · have e : sgn1 pw ++ pdL pw.natAbs = 45 :: pdL pw.natAbs := by unfold sgn1; rw [if_pos hn]; rfl
    have ed : pwD (45 :: pdL pw.natAbs) = pdL pw.natAbs := by rw [pwD, if_pos (.inr rfl)]
    rw [e]
    unfold pwOk pwV
    rw [ed, hm, show pwN (45 :: pdL pw.natAbs) = true from rfl, if_pos rfl]
    refine ⟨?_, by omega⟩
    simp
    omega
  · have e : sgn1 pw ++ pdL pw.natAbs = 43 :: pdL pw.natAbs := by unfold sgn1; rw [if_neg hn]; rfl
    have ed : pwD (43 :: pdL pw.natAbs) = pdL pw.natAbs := by rw [pwD, if_pos (.inl rfl)]
    rw [e]
    unfold pwOk pwV
    rw [ed, hm, show pwN (43 :: pdL pw.natAbs) = false from rfl, if_neg (by decide)]
    refine ⟨?_, by omega⟩
    simp
    omega
theorem suf_not {l : List UInt8} (h : (37 : UInt8) ∉ l) : Lib.hasSuffix l [37] = false ∧ Lib.trimSuffix l [37] = l := by
  have hs : Lib.hasSuffix l [37] = false := by
    cases hs : Lib.hasSuffix l [37]
    · rfl
    · have h1 : [37] <:+ l := List.isSuffixOf_iff_suffix.1 hs
      exact absurd (h1.subset (by simp)) h
  refine ⟨hs, ?_⟩
  unfold Lib.trimSuffix
  rw [hs, if_neg (by decide)]
theorem ptL_cons {A : List UInt8} (B : List UInt8) (h0 : 1 ≤ A.length) : ∃ c r, A = c :: r ∧ ptL A B = c :: ptL r B := by
  cases A with
  | nil => simp at h0
  | cons c r => exact ⟨c, r, rfl, rfl⟩
theorem dg_nosign {c : UInt8} (h : IsDg c) : isSign c = false := by
  rw [isSign_eq]
  have : ∀ k : UInt8, (k.toNat < 46 ∨ 57 < k.toNat) → (c == k) = false := fun k hk => by simpa using dg_ne (.inl h) hk
  rw [this 45 (by decide), this 43 (by decide), this 32 (by decide)]
  rfl
/-- what is read of digits with a point -/
theorem rr_pt {A B : List UInt8} (hA : ∀ b, b ∈ A → IsDg b) (hB : ∀ b, b ∈ B → IsDg b) (h0 : 1 ≤ A.length) : rrL (ptL A B) = rrFin false false (ptL A B) 0 ∧ rrL (45 :: ptL A B) = rrFin true false (ptL A B) 0 := by
  have hm := ptL_mem hA hB
  have n37 : (37 : UInt8) ∉ ptL A B := fun h => dg_ne (hm _ h) (.inl (by decide)) rfl
  have n101 : (101 : UInt8) ∉ ptL A B := fun h => dg_ne (hm _ h) (.inr (by decide)) rfl
  have n69 : (69 : UInt8) ∉ ptL A B := fun h => dg_ne (hm _ h) (.inr (by decide)) rfl
  obtain ⟨s1, s2⟩ := suf_not n37
  have hR : ∀ neg, rrM neg false (ptL A B) = rrFin neg false (ptL A B) 0 := fun neg => by
    unfold rrM
    rw [eP_no n101 n69]
  constructor
  · obtain ⟨c, r, e1, e2⟩ := ptL_cons B h0
    have hc := dg_nosign (hA c (by rw [e1]; simp))
    have hD : cutD (ptL A B) = ptL A B := by
      rw [e2]
      show (if isSign c then _ else _) = _
      rw [hc]
      rfl
    have hN : cutN (ptL A B) = false := by rw [e2]; exact cutN_no hc
    unfold rrL
    rw [hD, hN, s1, s2, hR]
  · unfold rrL
    rw [show cutD (45 :: ptL A B) = ptL A B from rfl, show cutN (45 :: ptL A B) = true from rfl, s1, s2, hR]
/-- what is read of digits with a power -/
theorem rr_pow {A B : List UInt8} (hA : ∀ b, b ∈ A → IsDg b) (hB : ∀ b, b ∈ B → IsDg b) (h0 : 1 ≤ A.length) {pw : Int} (p0 : -99 ≤ pw) (p1 : pw ≤ 99) :
    rrL (ptL A B ++ powL 101 pw) = rrFin false false (ptL A B) pw := by
  have hm := ptL_mem hA hB
  have hq : ∀ b, b ∈ powL 101 pw → IsDg b ∨ b = 101 ∨ b = 45 ∨ b = 43 := by
    intro b hb
    unfold powL at hb
    rcases List.mem_append.1 hb with hb | hb
    · exact .inr (.inl (by simpa using hb))
    · rcases List.mem_append.1 hb with hb | hb
      · unfold sgn1 at hb
        split at hb
        · exact .inr (.inr (.inl (by simpa using hb)))
        · exact .inr (.inr (.inr (by simpa using hb)))
      · exact .inl (pdL_dgF _ b hb)
  have n37 : (37 : UInt8) ∉ ptL A B ++ powL 101 pw := by
    intro h
    rcases List.mem_append.1 h with h | h
    · exact dg_ne (hm _ h) (.inl (by decide)) rfl
    · rcases hq _ h with h | h | h | h
      · exact dg_ne (.inl h) (.inl (by decide)) rfl
      · exact absurd h (by decide)
      · exact absurd h (by decide)
      · exact absurd h (by decide)
  have n101 : (101 : UInt8) ∉ ptL A B := fun h => dg_ne (hm _ h) (.inr (by decide)) rfl
  have n69 : (69 : UInt8) ∉ ptL A B := fun h => dg_ne (hm _ h) (.inr (by decide)) rfl
  obtain ⟨s1, s2⟩ := suf_not n37
  obtain ⟨c, r, e1, e2⟩ := ptL_cons B h0
  have hc := dg_nosign (hA c (by rw [e1]; simp))
  have hD : cutD (ptL A B ++ powL 101 pw) = ptL A B ++ powL 101 pw := by
    rw [e2]
    show (if isSign c then _ else _) = _
    rw [hc]
    rfl
  have hN : cutN (ptL A B ++ powL 101 pw) = false := by rw [e2]; exact cutN_no hc
  obtain ⟨v1, v2⟩ := pow_val p0 p1
  have he : eP (ptL A B ++ powL 101 pw) = some (ptL A B, sgn1 pw ++ pdL pw.natAbs) := eP_mid (b := 101) (.inl rfl) n101 n69
  unfold rrL
  rw [hD, hN, s1, s2]
  unfold rrM
  rw [he]
  simp only [v1, v2, if_true]
theorem strip2_mod (c e : Int) (h : 0 < c) : (Fd.strip2 c e).1 % 10 ≠ 0 := by
  induction c, e using Fd.strip2.induct with
  | case1 c e hc ih => rw [Fd.strip2_yes hc.1 hc.2]; exact ih (by omega)
  | case2 c e hc => rw [Fd.strip2_no (by omega)]; show c % 10 ≠ 0; omega
theorem normal2_mod {d : Fd.D} (h : 0 < (Fd.normal2 d).c) : (Fd.normal2 d).c % 10 ≠ 0 := by
  unfold Fd.normal2 at h ⊢
  by_cases h0 : d.c = 0
  · rw [if_pos h0] at h; exact absurd h (by decide)
  · rw [if_neg h0] at h ⊢
    simp only at h ⊢
    by_cases h1 : 0 < d.c
    · exact strip2_mod _ _ h1
    · rw [Fd.strip2, if_neg (by omega)] at h
      exact absurd h h1
theorem rounded_n (c e x : Int) : (Fd.normal2 (Fd.roundedS ⟨false, c, e⟩ x)).n = false := by
  have h : (Fd.roundedS ⟨false, c, e⟩ x).n = false := by
    unfold Fd.roundedS
    split
    · rfl
    · split
      · rfl
      · rfl
  unfold Fd.normal2
  split
  · rfl
  · exact h
theorem rlI_n (n : Bool) (c e g : Int) : rlI n c e g = rlI false c e g := by
  obtain ⟨d1, d2⟩ := drop_c n c e (Fd.dc c - g)
  unfold rlI
  rw [d1, d2]
theorem digits_run {r : Int} (h0 : 0 < r) (h1 : r ≤ 999999999) (k : Nat) : vRun 10 (48 :: (zeros k ++ digs false 10 r.toNat)) 0 = r := by
  have := vRun_zd (k + 1) r.toNat (by omega)
  rw [show 48 :: (zeros k ++ digs false 10 r.toNat) = zeros (k + 1) ++ digs false 10 r.toNat from rfl, this]
  omega
/-- what is rounded, as the text of a power tells it -/
def rdD (c e : Int) (p : Nat) : Fd.D := Fd.normal2 (Fd.roundedS ⟨false, c, e⟩ (Fd.size ⟨false, c, e⟩ - (p + 1)))
theorem fxL_all (c e : Int) (p : Nat) : (∀ b, b ∈ fxA c e p → IsDg b) ∧ (∀ b, b ∈ fxB c e p → IsDg b) :=
  ⟨fun b hb => fxL_dgF c e p b (by rw [← fxAB]; exact List.mem_append_left _ hb), fun b hb => fxL_dgF c e p b (by rw [← fxAB]; exact List.mem_append_right _ hb)⟩
theorem exp_fin {c e : Int} {p : Nat} (hv : Fd.vld ⟨false, c, e⟩ = true) (h0 : 0 < c) (hp : p ≤ 8) :
    rrFin false false (ptL (fxA c (e - rlI false c e (p + 1)) p) (fxB c (e - rlI false c e (p + 1)) p)) (rlI false c e (p + 1)) = Fd.fit2 (rdD c e p) ∧ 1 ≤ (fxA c (e - rlI false c e (p + 1)) p).length := by
  have F := ex_facts hv h0 hp
  obtain ⟨dA, _⟩ := fxL_all c (e - rlI false c e (p + 1)) p
  have hn := rounded_n c e (Fd.size ⟨false, c, e⟩ - (p + 1))
  have hmod := normal2_mod F.rb.1
  have hsz := F.size
  have hA := F.a
  have hB := F.b
  rw [show Fd.normal2 (Fd.roundedS ⟨false, c, e⟩ (Fd.size ⟨false, c, e⟩ - (p + 1))) = rdD c e p from rfl] at *
  have hrb := F.rb
  have hl := digs_dc hrb.1
  have hlen := F.len
  have hpos := F.pos
  generalize rlI false c e (p + 1) = pw at *
  generalize rdD c e p = r at *
  obtain ⟨rn, rc, re⟩ := r
  simp only at hn hmod hsz hA hB hrb hl hlen hpos
  subst hn
  have hAl : (fxA c (e - pw) p).length = 1 := by rw [hA, List.length_take]; omega
  refine ⟨?_, by omega⟩
  rw [fin_pt _ _ _ _ dA (by omega)]
  have hAB : fxA c (e - pw) p ++ fxB c (e - pw) p = (zeros 0 ++ digs false 10 rc.toNat) ++ zeros (p + 1 - (digs false 10 rc.toNat).length) := by
    rw [hA, hB, ← List.append_assoc, List.take_append_drop]
    rfl
  have hT : trR 48 (fxA c (e - pw) p ++ fxB c (e - pw) p) = zeros 0 ++ digs false 10 rc.toNat := by
    rw [hAB, trR_zs, trR_digs]
    omega
  rw [hT, digits_run hrb.1 hrb.2, if_neg (by omega), fit2_fit1 (by omega) hmod]
  congr 2
  rw [List.length_append, List.length_append, zeros_len, hAl]
  have hs2 : Fd.dc rc + re - 1 = pw := hsz
  simp only [Bool.false_eq_true, if_false]
  omega
theorem rdD_round {c e : Int} {p : Nat} (hv : Fd.vld ⟨false, c, e⟩ = true) (h0 : 0 < c) (hp : p ≤ 8) : (Fd.fit2 (rdD c e p)).1 = Fd.roundDI ⟨false, c, e⟩ (p + 1) := by
  rw [← Fd.roundD_eq]
  unfold Fd.roundDS
  rw [hv, show decide ((⟨false, c, e⟩ : Fd.D).c = 0) = false from by simp; omega, show Fd.inr ((p : Int) + 1) 1 9 = true by simp [Fd.inr]; omega]
  rfl
/-- P32: what is read of ExpText's text -/
theorem rr_exp {n : Bool} {c e : Int} {p : Nat} (hv : Fd.vld ⟨false, c, e⟩ = true) (hp : p ≤ 8) :
    (0 < c → (rrL (etL n c e p)).1 = Fd.roundDI ⟨false, c, e⟩ (p + 1)) ∧ (c = 0 → rrL (etL n c e p) = (Fd.D.z, true)) := by
  have hb := rl_bd (g := (p : Int) + 1) hv (by omega) (by omega)
  have he : etL n c e p = ptL (fxA c (e - rlI false c e (p + 1)) p) (fxB c (e - rlI false c e (p + 1)) p) ++ powL 101 (rlI false c e (p + 1)) := by
    unfold etL ptL
    rw [rlI_n, rest_split, List.append_assoc]
  obtain ⟨dA, dB⟩ := fxL_all c (e - rlI false c e (p + 1)) p
  rw [he]
  constructor
  · intro h0
    obtain ⟨h1, h2⟩ := exp_fin hv h0 hp
    rw [rr_pow dA dB h2 (by omega) (by omega), h1, rdD_round hv h0 hp]
  · rintro rfl
    obtain ⟨a1, a2⟩ := fx_zero (fxC_zero (e - rlI false 0 e (p + 1)) p)
    rw [rr_pow dA dB (by rw [a1]; simp) (by omega) (by omega), fin_pt _ _ _ _ dA (by rw [a1]; simp)]
    have hT : trR 48 (fxA 0 (e - rlI false 0 e (p + 1)) p ++ fxB 0 (e - rlI false 0 e (p + 1)) p) = [] := by
      rw [a1, a2, show ([48] : List UInt8) ++ zeros p = [] ++ zeros (p + 1) from rfl, trR_zs]
      rfl
    rw [hT, show vRun 10 [48] 0 = 0 from by rw [vRun_48]; rfl, if_neg (by omega)]
    exact Fd.fit_cz _ _
end Go.Proofs.YtebheehjhnaklaaGreatDoor
namespace Go.Proofs.YtebheehjhnaklaaGreatDoor
open Go Go.RowKit
set_option maxRecDepth 100000 in
set_option maxHeartbeats 4000000 in
theorem DrawExpText_any (s : Option Addr) (len cap : Nat) (w : World) (h : CodeAt s len w.heap.size w) (hcap : len ≤ cap) :
    Calls Tryz.prog 10 #[.slice s len cap] w fun r w' => (∃ n c e k, r = .returned (.tuple #[.agg #[.bool n, .int .i64 c, .int .i64 e], .int .i64 k])) ∧ Below w.heap.size w w' := by
  have zA0 := C3.new w (.bool false) (.int .i64 0) (.int .i64 0) 24
  have hB0 : Below w.heap.size w (w.alloc (.cells #[.bool false, .int .i64 0, .int .i64 0] 24)) := (Below.refl _ _).alloc (Nat.le_refl _) _
  go_enter Tryz.func10, Tryz.ntmps10
  go_wp2_with (first
    | (go_at_call 40; (with_reducible refine Calls.mono (newReader_any _ _ _ _ (h.up _) hcap) ?_); rintro r wa ⟨R, rfl, hR, hr, hb⟩; (try simp at hR); have zA := zA0.carry hb; have hBa := hB0.trans (hb.mono hB0.size); have hra := hr.1)
    | (go_at_call 41; (with_reducible refine Calls.mono (someDec_any R _ _ hr ?_) ?_); omega; rintro r wb ⟨⟨n, c, e, rfl⟩, hr2, hk⟩; have zB := zA.kp hk (by omega); (obtain ⟨a0, a1, a2, a3, a4, a5, a6⟩ := zB); have hB := below_kp hBa hk (by omega) (by omega); have hrb := hr2.1; have hzb := hk.size)
    | (go_at_call 42; (with_reducible refine Calls.mono (one_any R _ _ _ _ _ (hr2.up _) ?_ ?_ ?_ ?_) ?_); omega; omega; exact Nums.new _ _ _ 7 (by simp) rfl; omega; rintro r wc ⟨⟨k, rfl⟩, hr3, hk3⟩; have zE := ((zA.kp hk (by omega)).up _).kp hk3 (by omega); (obtain ⟨e0, e1, e2, e3, e4, e5, e6⟩ := zE); have hB2 := below_kp (hB.alloc (by omega) _) hk3 (by omega) (by simp; omega)))
  exact bodyPost_ret (v := .tuple #[.agg #[.bool n, .int .i64 c, .int .i64 e], .int .i64 k]) (by simp [results, Tryz.results10, go_sem, *]) rfl ⟨⟨n, c, e, k, rfl⟩, (by repeat (first | with_reducible exact Below.refl _ _ | with_reducible assumption | with_reducible refine Below.setCell ?_ (by first | omega | (simp; done) | (simp <;> omega)) _ | with_reducible refine below_drewN ?_ _ | with_reducible refine Below.drew ?_ | with_reducible refine Below.alloc ?_ (by first | omega | (simp; done) | (simp <;> omega)) _))⟩
theorem vld_falseP {n : Bool} {c e : Int} (hv : Fd.vld ⟨n, c, e⟩ = true) : Fd.vld ⟨false, c, e⟩ = true := by
  have h := Fd.vld_iff.1 hv
  exact Fd.vld_iff.2 ⟨h.1, h.2.1, h.2.2.1, h.2.2.2.1, by intro h; cases h⟩
theorem digs_first {C : Nat} (h : C ≠ 0) : ∀ a r, digs false 10 C = a :: r → a ≠ 48 := by
  intro a r e ha
  have h1 := trL_fx C 0
  rw [if_neg h, show zeros 0 = [] from rfl, List.append_nil, e, ha] at h1
  have h2 : trL 48 (48 :: r) = trL 48 r := by
    unfold trL
    rw [List.dropWhile_cons_of_pos (by decide)]
  rw [h2] at h1
  have h3 := congrArg List.length h1
  have h4 : (trL 48 r).length ≤ r.length := (List.dropWhile_suffix _).length_le
  simp at h3
  omega
theorem restL_le (B T : List UInt8) : (restL B T false).length ≤ B.length + T.length + 1 := by
  unfold restL
  split
  · omega
  · simp <;> omega
theorem exp_parts {c e : Int} {p : Nat} (hv : Fd.vld ⟨false, c, e⟩ = true) (h0 : 0 < c) (hp : p ≤ 8) :
    ∃ a0 : UInt8, fxA c (e - rlI false c e (p + 1)) p = [a0] ∧ a0 ≠ 48 ∧ (fxB c (e - rlI false c e (p + 1)) p).length = p := by
  have F := ex_facts hv h0 hp
  have hA := F.a
  have hB := F.b
  have hlen := F.len
  have hpos := F.pos
  have hrb := F.rb
  generalize Fd.normal2 (Fd.roundedS ⟨false, c, e⟩ (Fd.size ⟨false, c, e⟩ - (p + 1))) = r at *
  have hne : r.c.toNat ≠ 0 := by omega
  have hf := digs_first hne
  generalize digs false 10 r.c.toNat = D at *
  cases D with
  | nil => simp at hpos
  | cons a0 d =>
    refine ⟨a0, by rw [hA]; rfl, hf a0 d rfl, ?_⟩
    rw [hB, List.length_append, zeros_len]
    simp at hlen ⊢
    omega
/-- how a text with a power looks -/
theorem exp_shape {n : Bool} {c e : Int} {p : Nat} (hv : Fd.vld ⟨false, c, e⟩ = true) (h0 : 0 < c) (hp : p ≤ 8) :
    ∃ (a0 : UInt8) (q : List UInt8), a0 ≠ 48 ∧ q.length ≤ 4 ∧ ((p = 0 ∧ etL n c e p = a0 :: 101 :: q) ∨ (0 < p ∧ ∃ B, B.length = p ∧ etL n c e p = a0 :: 46 :: (B ++ 101 :: q))) := by
  obtain ⟨a0, hA, h48, hB⟩ := exp_parts hv h0 hp
  have hb := rl_bd (g := (p : Int) + 1) hv (by omega) (by omega)
  have hq := powL_len (u := 101) (pw := rlI false c e (p + 1)) (by omega)
  unfold etL
  rw [rlI_n n, hA]
  generalize fxB c (e - rlI false c e (p + 1)) p = B at *
  generalize rlI false c e (p + 1) = pw at *
  have hpl : powL 101 pw = 101 :: (sgn1 pw ++ pdL pw.natAbs) := rfl
  rw [hpl] at hq ⊢
  refine ⟨a0, sgn1 pw ++ pdL pw.natAbs, h48, by simp at hq ⊢; omega, ?_⟩
  by_cases hp0 : p = 0
  · left
    refine ⟨hp0, ?_⟩
    rw [show B = [] from List.length_eq_zero_iff.1 (by omega)]
    rfl
  · right
    refine ⟨by omega, B, hB, ?_⟩
    unfold restL
    rw [if_neg (fun h => by rw [h.1] at hB; simp at hB; omega)]
    rfl
theorem et_len {n : Bool} {c e : Int} {p : Nat} (hv : Fd.vld ⟨false, c, e⟩ = true) (hp : p ≤ 8) : 1 ≤ (etL n c e p).length ∧ (etL n c e p).length ≤ 80 := by
  have hc := (vld_b hv).1
  by_cases h0 : 0 < c
  · obtain ⟨a0, q, _, hq, ⟨_, h⟩ | ⟨_, B, hB, h⟩⟩ := exp_shape (n := n) hv h0 hp
    · rw [h]; simp; omega
    · rw [h]; simp; omega
  · obtain rfl : c = 0 := by omega
    have hb := rl_bd (g := (p : Int) + 1) hv (by omega) (by omega)
    have hq := powL_len (u := 101) (pw := rlI false 0 e (p + 1)) (by omega)
    unfold etL
    rw [rlI_n n]
    obtain ⟨a1, a2⟩ := fx_zero (fxC_zero (e - rlI false 0 e (p + 1)) p)
    rw [a1, a2, List.length_append]
    have := restL_le (zeros p) (powL 101 (rlI false 0 e (p + 1)))
    rw [zeros_len] at this
    simp
    omega
end Go.Proofs.YtebheehjhnaklaaGreatDoor
namespace Go.Proofs.YtebheehjhnaklaaGreatDoor
open Go Go.RowKit
end Go.Proofs.YtebheehjhnaklaaGreatDoor
