import Derived.Test.YtebheehjhnaklaaGreatDoorE13
import Derived.Test.YtebheehjhnaklaaGreatDoorZ6
namespace Go.Proofs.YtebheehjhnaklaaGreatDoor
open Go Go.RowKit
/-- the power of a general text, with a letter -/
def gnU (u : UInt8) (n : Bool) (c e : Int) (p : Nat) : List UInt8 := if sciB (rlI n c e (p + 1)) p then powL u (rlI n c e (p + 1)) else []
theorem digs_dg : ∀ (k n : Nat), n ≤ k → ∀ x ∈ digs false 10 n, 48 ≤ x.toNat ∧ x.toNat ≤ 57 := by
  have h10 : ∀ d, d < 10 → 48 ≤ (dch false d).toNat ∧ (dch false d).toNat ≤ 57 := by
    intro d hd
    have h0 : ((List.range 10).all fun d => decide (48 ≤ (dch false d).toNat) && decide ((dch false d).toNat ≤ 57)) = true := by decide +kernel
    have := List.all_eq_true.1 h0 d (List.mem_range.2 hd)
    simpa using this
  intro k
  induction k with
  | zero =>
    intro n hn x hx
    rw [digs_lt (by omega)] at hx
    have hx' : x = dch false n := by simpa using hx
    rw [hx']; exact h10 n (by omega)
  | succ k ih =>
    intro n hn x hx
    by_cases h : n < 10
    · rw [digs_lt h] at hx
      have hx' : x = dch false n := by simpa using hx
      rw [hx']; exact h10 n h
    · have hd := div_lt_of (b := 10) (by omega) (show 10 ≤ n by omega)
      rw [digs_ge (by omega) (by omega)] at hx
      rcases List.mem_append.1 hx with hx | hx
      · exact ih (n / 10) (by omega) x hx
      · have hx' : x = dch false (n % 10) := by simpa using hx
        rw [hx']; exact h10 _ (by omega)
theorem upper_dg {b : UInt8} (h : 48 ≤ b.toNat ∧ b.toNat ≤ 57) : Lib.upperB b = b := by
  have := all_bytes (fun b => !(decide (48 ≤ b.toNat) && decide (b.toNat ≤ 57)) || (Lib.upperB b == b)) (by kernel_rfl) b
  simp only [decide_eq_true h.1, decide_eq_true h.2, Bool.and_self, Bool.not_true, Bool.false_or, beq_iff_eq] at this
  exact this
theorem pdL_dg (m : Nat) : ∀ x ∈ pdL m, 48 ≤ x.toNat ∧ x.toNat ≤ 57 := by
  intro x hx
  unfold pdL at hx
  rcases List.mem_append.1 hx with hx | hx
  · split at hx
    · have : x = 48 := by simpa using hx
      subst this; decide
    · cases hx
  · exact digs_dg m m (Nat.le_refl _) x hx
theorem map_self {l : List UInt8} {g : UInt8 → UInt8} (h : ∀ x ∈ l, g x = x) : l.map g = l := by
  induction l with
  | nil => rfl
  | cons a r ih => rw [List.map_cons, h a (by simp), ih (fun x hx => h x (by simp [hx]))]
theorem upper_pow (pw : Int) : Lib.toUpperA (powL 101 pw) = powL 69 pw := by
  unfold Lib.toUpperA powL sgn1
  rw [List.map_append, List.map_append, map_self (l := pdL pw.natAbs) (fun x hx => upper_dg (pdL_dg _ x hx))]
  split <;> rfl
theorem pow_ascii (pw : Int) : ∀ x ∈ powL 101 pw, x.toNat < 128 := by
  intro x hx
  unfold powL sgn1 at hx
  rcases List.mem_append.1 hx with hx | hx
  · have : x = 101 := by simpa using hx
    subst this; decide
  · rcases List.mem_append.1 hx with hx | hx
    · split at hx
      · have : x = 45 := by simpa using hx
        subst this; decide
      · have : x = 43 := by simpa using hx
        subst this; decide
    · have := pdL_dg _ x hx; omega
theorem ToUpper_pow (pw : Int) (hl : (powL 101 pw).length ≤ 10) (w : World) :
    Calls Tryz.prog 203 #[.string ⟨(powL 101 pw).toArray⟩] w fun r w' => r = .returned (.string ⟨(powL 69 pw).toArray⟩) ∧ Below w.heap.size w w' := by
  have h := Tryz.strings_ToUpper_ascii ⟨(powL 101 pw).toArray⟩ w (by show (powL 101 pw).length ≤ _; omega) (fun j x hx => pow_ascii pw x (List.mem_of_getElem? hx))
  rw [show (⟨(powL 101 pw).toArray⟩ : ByteArray).data.toList = powL 101 pw from rfl, upper_pow] at h
  exact h
theorem ToUpper_gn (n : Bool) (c e : Int) (p : Nat) (hl : (gnT n c e p).length ≤ 10) (w : World) :
    Calls Tryz.prog 203 #[.string ⟨(gnT n c e p).toArray⟩] w fun r w' => r = .returned (.string ⟨(gnU 69 n c e p).toArray⟩) ∧ Below w.heap.size w w' := by
  unfold gnT gnU at *
  cases h : sciB (rlI n c e (p + 1)) p
  · have h2 := Tryz.strings_ToUpper_ascii ⟨#[]⟩ w (by decide) (fun j x hx => by simp at hx)
    exact h2
  · rw [h] at hl
    exact ToUpper_pow _ hl w
set_option maxRecDepth 100000 in
set_option maxHeartbeats 8000000 in
theorem generalPartsF_any (u : UInt8) (n : Bool) (c e : Int) (p : Nat) (qq : Int) (hq1 : max (1 : Int) qq = (p : Int) + 1) (w : World) (hv : Fd.vld ⟨n, c, e⟩ = true) (hp : p ≤ 8) :
    Calls Tryz.prog 65 #[.agg #[.bool n, .int .i64 c, .int .i64 e], .int .i64 qq, .bool false, .string ⟨#[u]⟩] w fun r w' => r = .returned (.tuple #[.string ⟨(gnA n c e p).toArray⟩, .string ⟨(trR 48 (gnB n c e p)).toArray⟩, .string ⟨(gnU u n c e p).toArray⟩]) ∧ Below w.heap.size w w' := by
  obtain ⟨b0, b1, b2, b3⟩ := vld_b hv
  have hb := rl_bd (g := (p : Int) + 1) hv (by omega) (by omega)
  have hl := ex_len hv hp
  have kx := fun W => expPartsS_any n c e p W hv hp
  have hmx : max (1 : Int) qq = (p : Int) + 1 := hq1
  have g1 : (p : Int) + 1 - 1 = p := by omega
  have zb := C3.new w (.bool n) (.int .i64 c) (.int .i64 e) 24
  have hB : Below w.heap.size w (w.alloc (.cells #[.bool n, .int .i64 c, .int .i64 e] 24)) := Below.alloc (Below.refl _ _) (Nat.le_refl _) _
  have zz := zb
  obtain ⟨x0, x1, x2, x3, x4, x5, x6⟩ := zz
  cases hS : sciB (rlI n c e (p + 1)) p
  · have hS' := hS
    simp only [sciB, Bool.or_eq_false_iff, decide_eq_false_iff_not] at hS'
    rw [show gnA n c e p = fxA c e (p - rlI n c e (p + 1)).toNat by unfold gnA; rw [hS]; rfl, show gnB n c e p = fxB c e (p - rlI n c e (p + 1)).toNat by unfold gnB; rw [hS]; rfl, show gnU u n c e p = [] by unfold gnU; rw [hS]; rfl]
    obtain ⟨q, hq⟩ : ∃ q : Nat, (p : Int) - rlI n c e (p + 1) = q := ⟨(p - rlI n c e (p + 1)).toNat, by omega⟩
    rw [hq, show ((q : Nat) : Int).toNat = q from rfl]
    obtain ⟨r1, r2, r3, r4, r5, r6, r7⟩ := rf_facts hv hp hq (by omega)
    have F := fx_facts n (c := c) (e := e) (p := q) b0 b1 (by omega) (by omega) (by omega) (by omega)
    have hlq := fxAB_len F.cb (by omega) (by omega)
    have kf := fun W => roundedForS_any n c e p W hv hp
    have kp := fun W => fixedPartsS_any (rfD n c e p).n (rfD n c e p).c (rfD n c e p).e q W r1 r2 r3 r4 r5 (by omega)
    rw [r6, r7] at kp
    have kt := fun W => mBn (trimmedS_any ⟨(fxB c e q).toArray⟩ (by show (fxB c e q).length ≤ _; omega) W)
    rw [show trRB 48 ⟨(fxB c e q).toArray⟩ = ⟨(trR 48 (fxB c e q)).toArray⟩ from rfl] at kt
    clear r1 r2 r3 r4 r5 r6 r7 F hlq hl
    generalize trR 48 (fxB c e q) = B2 at *
    generalize fxA c e q = A at *
    generalize fxB c e q = B at *
    generalize fxA c (e - rlI n c e (p + 1)) p = A0 at *
    generalize fxB c (e - rlI n c e (p + 1)) p = B0 at *
    generalize (rfD n c e p).n = n2 at *
    generalize (rfD n c e p).c = c2 at *
    generalize (rfD n c e p).e = e2 at *
    generalize rlI n c e (p + 1) = pw at *
    obtain ⟨i1, i2⟩ := hS'
    have i3 : ¬ (p : Int) + 1 ≤ pw := i2
    have wq : IntKind.i64.wrap (q : Int) = q := IntWalk.i64_in _ (by omega)
    have KX := Lib.hid kx; have KF := Lib.hid kf; have KP := Lib.hid kp; have KT := Lib.hid kt
    clear kx kf kp kt
    clear hv hS
    go_enter Tryz.func65, Tryz.ntmps65
    go_wp2_with (first | (go_at_call 49; (with_reducible refine Calls.mono (KX.out _) ?_); rintro r w1 ⟨rfl, hb⟩; replace hB := hB.trans (hb.mono hB.size); have hz := hB.size; replace zb := C3.carry zb hb; have zz := zb; obtain ⟨x0, x1, x2, x3, x4, x5, x6⟩ := zz) | (go_at_call 112; (with_reducible refine Calls.mono (KF.out _) ?_); rintro r w1 ⟨rfl, hb⟩; replace hB := hB.trans (hb.mono hB.size); have hz := hB.size; replace zb := C3.carry zb hb; have zz := zb; obtain ⟨x0, x1, x2, x3, x4, x5, x6⟩ := zz) | (go_at_call 111; (with_reducible refine Calls.mono (KP.out _) ?_); rintro r w1 ⟨rfl, hb⟩; replace hB := hB.trans (hb.mono hB.size); have hz := hB.size; replace zb := C3.carry zb hb; have zz := zb; obtain ⟨x0, x1, x2, x3, x4, x5, x6⟩ := zz) | (go_at_call 113; (with_reducible refine Calls.mono (KT.out _) ?_); rintro r w1 ⟨rfl, hb⟩; replace hB := hB.trans (hb.mono hB.size); have hz := hB.size; replace zb := C3.carry zb hb; have zz := zb; obtain ⟨x0, x1, x2, x3, x4, x5, x6⟩ := zz))
    exact bodyPost_ret (v := .tuple #[.string ⟨A.toArray⟩, .string ⟨B2.toArray⟩, .string ⟨#[]⟩]) (by simp [results, Tryz.results65, go_sem, *]) rfl ⟨rfl, hB⟩
  · have hS' := hS
    simp only [sciB, Bool.or_eq_true, decide_eq_true_eq] at hS'
    rw [show gnA n c e p = fxA c (e - rlI n c e (p + 1)) p by unfold gnA; rw [hS]; rfl, show gnB n c e p = fxB c (e - rlI n c e (p + 1)) p by unfold gnB; rw [hS]; rfl, show gnU u n c e p = powL u (rlI n c e (p + 1)) by unfold gnU; rw [hS]; rfl]
    have kp := fun W => expTextS_any u (rlI n c e (p + 1)) (by omega) W
    have kt := fun W => mBn (trimmedS_any ⟨(fxB c (e - rlI n c e (p + 1)) p).toArray⟩ (by show (fxB c (e - rlI n c e (p + 1)) p).length ≤ _; omega) W)
    rw [show trRB 48 ⟨(fxB c (e - rlI n c e (p + 1)) p).toArray⟩ = ⟨(trR 48 (fxB c (e - rlI n c e (p + 1)) p)).toArray⟩ from rfl] at kt
    clear hl
    generalize trR 48 (fxB c (e - rlI n c e (p + 1)) p) = B2 at *
    generalize fxA c (e - rlI n c e (p + 1)) p = A at *
    generalize fxB c (e - rlI n c e (p + 1)) p = B at *
    generalize powL u (rlI n c e (p + 1)) = T at *
    generalize rlI n c e (p + 1) = pw at *
    have KX := Lib.hid kx; have KP := Lib.hid kp; have KT := Lib.hid kt
    clear kx kp kt
    clear hv hS
    by_cases i1 : pw < -4
    · go_enter Tryz.func65, Tryz.ntmps65
      go_wp2_with (first | (go_at_call 49; (with_reducible refine Calls.mono (KX.out _) ?_); rintro r w1 ⟨rfl, hb⟩; replace hB := hB.trans (hb.mono hB.size); have hz := hB.size; replace zb := C3.carry zb hb; have zz := zb; obtain ⟨x0, x1, x2, x3, x4, x5, x6⟩ := zz) | (go_at_call 51; (with_reducible refine Calls.mono (KP.out _) ?_); rintro r w1 ⟨rfl, hb⟩; replace hB := hB.trans (hb.mono hB.size); have hz := hB.size; replace zb := C3.carry zb hb; have zz := zb; obtain ⟨x0, x1, x2, x3, x4, x5, x6⟩ := zz) | (go_at_call 113; (with_reducible refine Calls.mono (KT.out _) ?_); rintro r w1 ⟨rfl, hb⟩; replace hB := hB.trans (hb.mono hB.size); have hz := hB.size; replace zb := C3.carry zb hb; have zz := zb; obtain ⟨x0, x1, x2, x3, x4, x5, x6⟩ := zz))
      exact bodyPost_ret (v := .tuple #[.string ⟨A.toArray⟩, .string ⟨B2.toArray⟩, .string ⟨T.toArray⟩]) (by simp [results, Tryz.results65, go_sem, *]) rfl ⟨rfl, hB⟩
    · have i2 : (p : Int) + 1 ≤ pw := by omega
      go_enter Tryz.func65, Tryz.ntmps65
      go_wp2_with (first | (go_at_call 49; (with_reducible refine Calls.mono (KX.out _) ?_); rintro r w1 ⟨rfl, hb⟩; replace hB := hB.trans (hb.mono hB.size); have hz := hB.size; replace zb := C3.carry zb hb; have zz := zb; obtain ⟨x0, x1, x2, x3, x4, x5, x6⟩ := zz) | (go_at_call 51; (with_reducible refine Calls.mono (KP.out _) ?_); rintro r w1 ⟨rfl, hb⟩; replace hB := hB.trans (hb.mono hB.size); have hz := hB.size; replace zb := C3.carry zb hb; have zz := zb; obtain ⟨x0, x1, x2, x3, x4, x5, x6⟩ := zz) | (go_at_call 113; (with_reducible refine Calls.mono (KT.out _) ?_); rintro r w1 ⟨rfl, hb⟩; replace hB := hB.trans (hb.mono hB.size); have hz := hB.size; replace zb := C3.carry zb hb; have zz := zb; obtain ⟨x0, x1, x2, x3, x4, x5, x6⟩ := zz))
      exact bodyPost_ret (v := .tuple #[.string ⟨A.toArray⟩, .string ⟨B2.toArray⟩, .string ⟨T.toArray⟩]) (by simp [results, Tryz.results65, go_sem, *]) rfl ⟨rfl, hB⟩
set_option maxRecDepth 100000 in
set_option maxHeartbeats 8000000 in
theorem generalPartsT_any (u : UInt8) (n : Bool) (c e : Int) (p : Nat) (qq : Int) (hq1 : max (1 : Int) qq = (p : Int) + 1) (w : World) (hv : Fd.vld ⟨n, c, e⟩ = true) (hp : p ≤ 8) :
    Calls Tryz.prog 65 #[.agg #[.bool n, .int .i64 c, .int .i64 e], .int .i64 qq, .bool true, .string ⟨#[u]⟩] w fun r w' => r = .returned (.tuple #[.string ⟨(gnA n c e p).toArray⟩, .string ⟨(gnB n c e p).toArray⟩, .string ⟨(gnU u n c e p).toArray⟩]) ∧ Below w.heap.size w w' := by
  obtain ⟨b0, b1, b2, b3⟩ := vld_b hv
  have hb := rl_bd (g := (p : Int) + 1) hv (by omega) (by omega)
  have hl := ex_len hv hp
  have kx := fun W => expPartsS_any n c e p W hv hp
  have hmx : max (1 : Int) qq = (p : Int) + 1 := hq1
  have g1 : (p : Int) + 1 - 1 = p := by omega
  have zb := C3.new w (.bool n) (.int .i64 c) (.int .i64 e) 24
  have hB : Below w.heap.size w (w.alloc (.cells #[.bool n, .int .i64 c, .int .i64 e] 24)) := Below.alloc (Below.refl _ _) (Nat.le_refl _) _
  have zz := zb
  obtain ⟨x0, x1, x2, x3, x4, x5, x6⟩ := zz
  cases hS : sciB (rlI n c e (p + 1)) p
  · have hS' := hS
    simp only [sciB, Bool.or_eq_false_iff, decide_eq_false_iff_not] at hS'
    rw [show gnA n c e p = fxA c e (p - rlI n c e (p + 1)).toNat by unfold gnA; rw [hS]; rfl, show gnB n c e p = fxB c e (p - rlI n c e (p + 1)).toNat by unfold gnB; rw [hS]; rfl, show gnU u n c e p = [] by unfold gnU; rw [hS]; rfl]
    obtain ⟨q, hq⟩ : ∃ q : Nat, (p : Int) - rlI n c e (p + 1) = q := ⟨(p - rlI n c e (p + 1)).toNat, by omega⟩
    rw [hq, show ((q : Nat) : Int).toNat = q from rfl]
    obtain ⟨r1, r2, r3, r4, r5, r6, r7⟩ := rf_facts hv hp hq (by omega)
    have F := fx_facts n (c := c) (e := e) (p := q) b0 b1 (by omega) (by omega) (by omega) (by omega)
    have hlq := fxAB_len F.cb (by omega) (by omega)
    have kf := fun W => roundedForS_any n c e p W hv hp
    have kp := fun W => fixedPartsS_any (rfD n c e p).n (rfD n c e p).c (rfD n c e p).e q W r1 r2 r3 r4 r5 (by omega)
    rw [r6, r7] at kp
    have kt := fun W => mBn (trimmedS_any ⟨(fxB c e q).toArray⟩ (by show (fxB c e q).length ≤ _; omega) W)
    rw [show trRB 48 ⟨(fxB c e q).toArray⟩ = ⟨(trR 48 (fxB c e q)).toArray⟩ from rfl] at kt
    clear r1 r2 r3 r4 r5 r6 r7 F hlq hl
    generalize trR 48 (fxB c e q) = B2 at *
    generalize fxA c e q = A at *
    generalize fxB c e q = B at *
    generalize fxA c (e - rlI n c e (p + 1)) p = A0 at *
    generalize fxB c (e - rlI n c e (p + 1)) p = B0 at *
    generalize (rfD n c e p).n = n2 at *
    generalize (rfD n c e p).c = c2 at *
    generalize (rfD n c e p).e = e2 at *
    generalize rlI n c e (p + 1) = pw at *
    obtain ⟨i1, i2⟩ := hS'
    have i3 : ¬ (p : Int) + 1 ≤ pw := i2
    have wq : IntKind.i64.wrap (q : Int) = q := IntWalk.i64_in _ (by omega)
    have KX := Lib.hid kx; have KF := Lib.hid kf; have KP := Lib.hid kp; have KT := Lib.hid kt
    clear kx kf kp kt
    clear hv hS
    go_enter Tryz.func65, Tryz.ntmps65
    go_wp2_with (first | (go_at_call 49; (with_reducible refine Calls.mono (KX.out _) ?_); rintro r w1 ⟨rfl, hb⟩; replace hB := hB.trans (hb.mono hB.size); have hz := hB.size; replace zb := C3.carry zb hb; have zz := zb; obtain ⟨x0, x1, x2, x3, x4, x5, x6⟩ := zz) | (go_at_call 112; (with_reducible refine Calls.mono (KF.out _) ?_); rintro r w1 ⟨rfl, hb⟩; replace hB := hB.trans (hb.mono hB.size); have hz := hB.size; replace zb := C3.carry zb hb; have zz := zb; obtain ⟨x0, x1, x2, x3, x4, x5, x6⟩ := zz) | (go_at_call 111; (with_reducible refine Calls.mono (KP.out _) ?_); rintro r w1 ⟨rfl, hb⟩; replace hB := hB.trans (hb.mono hB.size); have hz := hB.size; replace zb := C3.carry zb hb; have zz := zb; obtain ⟨x0, x1, x2, x3, x4, x5, x6⟩ := zz) | (go_at_call 113; (with_reducible refine Calls.mono (KT.out _) ?_); rintro r w1 ⟨rfl, hb⟩; replace hB := hB.trans (hb.mono hB.size); have hz := hB.size; replace zb := C3.carry zb hb; have zz := zb; obtain ⟨x0, x1, x2, x3, x4, x5, x6⟩ := zz))
    exact bodyPost_ret (v := .tuple #[.string ⟨A.toArray⟩, .string ⟨B.toArray⟩, .string ⟨#[]⟩]) (by simp [results, Tryz.results65, go_sem, *]) rfl ⟨rfl, hB⟩
  · have hS' := hS
    simp only [sciB, Bool.or_eq_true, decide_eq_true_eq] at hS'
    rw [show gnA n c e p = fxA c (e - rlI n c e (p + 1)) p by unfold gnA; rw [hS]; rfl, show gnB n c e p = fxB c (e - rlI n c e (p + 1)) p by unfold gnB; rw [hS]; rfl, show gnU u n c e p = powL u (rlI n c e (p + 1)) by unfold gnU; rw [hS]; rfl]
    have kp := fun W => expTextS_any u (rlI n c e (p + 1)) (by omega) W
    have kt := fun W => mBn (trimmedS_any ⟨(fxB c (e - rlI n c e (p + 1)) p).toArray⟩ (by show (fxB c (e - rlI n c e (p + 1)) p).length ≤ _; omega) W)
    rw [show trRB 48 ⟨(fxB c (e - rlI n c e (p + 1)) p).toArray⟩ = ⟨(trR 48 (fxB c (e - rlI n c e (p + 1)) p)).toArray⟩ from rfl] at kt
    clear hl
    generalize trR 48 (fxB c (e - rlI n c e (p + 1)) p) = B2 at *
    generalize fxA c (e - rlI n c e (p + 1)) p = A at *
    generalize fxB c (e - rlI n c e (p + 1)) p = B at *
    generalize powL u (rlI n c e (p + 1)) = T at *
    generalize rlI n c e (p + 1) = pw at *
    have KX := Lib.hid kx; have KP := Lib.hid kp; have KT := Lib.hid kt
    clear kx kp kt
    clear hv hS
    by_cases i1 : pw < -4
    · go_enter Tryz.func65, Tryz.ntmps65
      go_wp2_with (first | (go_at_call 49; (with_reducible refine Calls.mono (KX.out _) ?_); rintro r w1 ⟨rfl, hb⟩; replace hB := hB.trans (hb.mono hB.size); have hz := hB.size; replace zb := C3.carry zb hb; have zz := zb; obtain ⟨x0, x1, x2, x3, x4, x5, x6⟩ := zz) | (go_at_call 51; (with_reducible refine Calls.mono (KP.out _) ?_); rintro r w1 ⟨rfl, hb⟩; replace hB := hB.trans (hb.mono hB.size); have hz := hB.size; replace zb := C3.carry zb hb; have zz := zb; obtain ⟨x0, x1, x2, x3, x4, x5, x6⟩ := zz) | (go_at_call 113; (with_reducible refine Calls.mono (KT.out _) ?_); rintro r w1 ⟨rfl, hb⟩; replace hB := hB.trans (hb.mono hB.size); have hz := hB.size; replace zb := C3.carry zb hb; have zz := zb; obtain ⟨x0, x1, x2, x3, x4, x5, x6⟩ := zz))
      exact bodyPost_ret (v := .tuple #[.string ⟨A.toArray⟩, .string ⟨B.toArray⟩, .string ⟨T.toArray⟩]) (by simp [results, Tryz.results65, go_sem, *]) rfl ⟨rfl, hB⟩
    · have i2 : (p : Int) + 1 ≤ pw := by omega
      go_enter Tryz.func65, Tryz.ntmps65
      go_wp2_with (first | (go_at_call 49; (with_reducible refine Calls.mono (KX.out _) ?_); rintro r w1 ⟨rfl, hb⟩; replace hB := hB.trans (hb.mono hB.size); have hz := hB.size; replace zb := C3.carry zb hb; have zz := zb; obtain ⟨x0, x1, x2, x3, x4, x5, x6⟩ := zz) | (go_at_call 51; (with_reducible refine Calls.mono (KP.out _) ?_); rintro r w1 ⟨rfl, hb⟩; replace hB := hB.trans (hb.mono hB.size); have hz := hB.size; replace zb := C3.carry zb hb; have zz := zb; obtain ⟨x0, x1, x2, x3, x4, x5, x6⟩ := zz) | (go_at_call 113; (with_reducible refine Calls.mono (KT.out _) ?_); rintro r w1 ⟨rfl, hb⟩; replace hB := hB.trans (hb.mono hB.size); have hz := hB.size; replace zb := C3.carry zb hb; have zz := zb; obtain ⟨x0, x1, x2, x3, x4, x5, x6⟩ := zz))
      exact bodyPost_ret (v := .tuple #[.string ⟨A.toArray⟩, .string ⟨B.toArray⟩, .string ⟨T.toArray⟩]) (by simp [results, Tryz.results65, go_sem, *]) rfl ⟨rfl, hB⟩
end Go.Proofs.YtebheehjhnaklaaGreatDoor
