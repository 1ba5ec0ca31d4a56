import Derived.Test.YtbkdjldimmhbjaaDoorPS6
import Derived.Deep.CutBlock
import Derived.Deep.DeepCutAuto
import Derived.Deep.RegionWith
namespace Go.Proofs.YtbkdjldimmhbjaaDoor
open Go Go.RowKit
def mW : List UInt8 → Int × List UInt8
  | [] => (0, [])
  | b :: r => if b = 48 then (0, b :: r) else (max (tkN (b :: r)).1 0, (tkN (b :: r)).2)
def mfS : Option UInt8 → ByteArray
  | none => ⟨#[]⟩
  | some a => ⟨#[a]⟩
/-- whether the second byte is an alignment -/
def sndB : List UInt8 → Bool
  | _ :: b :: _ => decide (0 ≤ Lib.indexByte al4 b)
  | _ => false
def notZ : List UInt8 → Bool
  | [] => false
  | b :: _ => !(b == 48)
theorem tk_len {α : Type} (ix : List UInt8 → α → Int) (ms : List UInt8) (l : List α) : (tk ix ms l).2.length ≤ l.length := by
  cases l with
  | nil => exact Nat.le_refl _
  | cons b r =>
    show (if 0 ≤ ix ms b then (ix ms b + 1, r) else (0, b :: r)).2.length ≤ _
    split <;> simp
theorem tkF_len {α : Type} (ix : List UInt8 → α → Int) (l : List α) : (tkF ix l).2.length ≤ l.length := by
  match l with
  | [] => exact Nat.le_refl _
  | [_] => exact Nat.le_refl _
  | a :: b :: r =>
    show (if 0 ≤ ix al4 b then (some a, b :: r) else (none, a :: b :: r)).2.length ≤ _
    split <;> simp
theorem runN_len : ∀ (l : List UInt8) (n : Int), (runN l n).2.length ≤ l.length
  | [], _ => Nat.le_refl _
  | b :: r, n => by
    unfold runN
    split
    · have := runN_len r (min (10 * n + ((b.toNat : Int) - 48)) 1000)
      simp
      omega
    · exact Nat.le_refl _
theorem tkN_len (l : List UInt8) : (tkN l).2.length ≤ l.length := by
  cases l with
  | nil => exact Nat.le_refl _
  | cons b r =>
    show (if isD b = true then runN (b :: r) 0 else (-1, b :: r)).2.length ≤ _
    split
    · exact runN_len _ _
    · exact Nat.le_refl _
theorem mW_len (l : List UInt8) : (mW l).2.length ≤ l.length := by
  cases l with
  | nil => exact Nat.le_refl _
  | cons b r =>
    show (if b = 48 then (0, b :: r) else (max (tkN (b :: r)).1 0, (tkN (b :: r)).2)).2.length ≤ _
    split
    · exact Nat.le_refl _
    · exact tkN_len _
structure MP where
  f : ByteArray
  al : Int
  si : Int
  alt : Bool
  ze : Bool
  wi : Int
  gr : Int
  pr : Int
  ty : List UInt8
  fine : Bool
def mpG (l : List UInt8) : MP :=
  let f := tkF Lib.indexByte l
  let a := tk Lib.indexByte al4 f.2
  let s := tk Lib.indexByte si3 a.2
  let x := tk Lib.indexByte [35] s.2
  let z := tk Lib.indexByte [48] x.2
  let w := mW z.2
  let g := tk Lib.indexByte gr2 w.2
  let p := tk Lib.indexByte [46] g.2
  let n := tkN p.2
  if 0 < p.1 then ⟨mfS f.1, a.1, s.1, decide (0 < x.1), decide (0 < z.1), w.1, g.1, n.1, n.2, decide (0 ≤ n.1)⟩
  else ⟨mfS f.1, a.1, s.1, decide (0 < x.1), decide (0 < z.1), w.1, g.1, -1, p.2, true⟩
def mpOk (M : MP) (l : List UInt8) : Bool := vSp M.f M.al M.si M.wi M.gr M.pr ⟨M.ty.toArray⟩ && (spL M.f.data.toList M.al M.si M.alt M.ze M.wi M.gr M.pr M.ty == l)
def mpV (M : MP) (l : List UInt8) : Value := if M.fine then .tuple #[.agg #[.string M.f, .int .i64 M.al, .int .i64 M.si, .bool M.alt, .bool M.ze, .int .i64 M.wi, .int .i64 M.gr, .int .i64 M.pr, .string ⟨M.ty.toArray⟩], .bool (mpOk M l)] else .tuple #[.agg #[.string ⟨#[]⟩, .int .i64 0, .int .i64 0, .bool false, .bool false, .int .i64 0, .int .i64 0, .int .i64 0, .string ⟨#[]⟩], .bool false]
set_option maxRecDepth 100000 in
set_option maxHeartbeats 16000000 in
theorem parseSpecS_any (l : List UInt8) (hl : l.length ≤ 1048576) (w : World) :
    Calls Tryd.prog 26 #[.string ⟨l.toArray⟩] w fun r w' => r = .returned (mpV (mpG l) l) ∧ Below w.heap.size w w' := by
  have l1 := tkF_len Lib.indexByte l
  have hFs : sndB l = true → ∃ a b r, l = a :: b :: r ∧ tkF Lib.indexByte l = (some a, b :: r) := by
    intro h
    match l, h with
    | a :: b :: r, h =>
      refine ⟨a, b, r, rfl, ?_⟩
      show (if 0 ≤ Lib.indexByte al4 b then _ else _) = _
      rw [if_pos (by simpa [sndB] using h)]
  have hFn : sndB l = false → tkF Lib.indexByte l = (none, l) := by
    intro h
    match l, h with
    | [], _ => rfl
    | [a], _ => rfl
    | a :: b :: r, h =>
      show (if 0 ≤ Lib.indexByte al4 b then _ else _) = _
      rw [if_neg (by simpa [sndB] using h)]
  rcases hT1 : tkF Lib.indexByte l with ⟨F, L1⟩
  rw [hT1] at l1 hFs hFn
  dsimp only at l1
  have k2 : ∀ W, Calls Tryd.prog 55 #[.string ⟨L1.toArray⟩, .string ⟨#[60, 62, 94, 61]⟩] W fun r w' => r = .returned (.tuple #[.int .i64 (tk Lib.indexByte al4 L1).1, .string ⟨(tk Lib.indexByte al4 L1).2.toArray⟩]) ∧ Below W.heap.size W w' := fun W => taken_any L1 al4 (by omega) (by decide) W
  have l2 := tk_len Lib.indexByte al4 L1
  rcases hT2 : tk Lib.indexByte al4 L1 with ⟨al, L2⟩
  simp only [hT2] at k2
  rw [hT2] at l2
  dsimp only at l2
  have k3 : ∀ W, Calls Tryd.prog 55 #[.string ⟨L2.toArray⟩, .string ⟨#[45, 43, 32]⟩] W fun r w' => r = .returned (.tuple #[.int .i64 (tk Lib.indexByte si3 L2).1, .string ⟨(tk Lib.indexByte si3 L2).2.toArray⟩]) ∧ Below W.heap.size W w' := fun W => taken_any L2 si3 (by omega) (by decide) W
  have l3 := tk_len Lib.indexByte si3 L2
  rcases hT3 : tk Lib.indexByte si3 L2 with ⟨si, L3⟩
  simp only [hT3] at k3
  rw [hT3] at l3
  dsimp only at l3
  have k4 : ∀ W, Calls Tryd.prog 55 #[.string ⟨L3.toArray⟩, .string ⟨#[35]⟩] W fun r w' => r = .returned (.tuple #[.int .i64 (tk Lib.indexByte [35] L3).1, .string ⟨(tk Lib.indexByte [35] L3).2.toArray⟩]) ∧ Below W.heap.size W w' := fun W => taken_any L3 [35] (by omega) (by decide) W
  have l4 := tk_len Lib.indexByte [35] L3
  rcases hT4 : tk Lib.indexByte [35] L3 with ⟨ax, L4⟩
  simp only [hT4] at k4
  rw [hT4] at l4
  dsimp only at l4
  have k5 : ∀ W, Calls Tryd.prog 55 #[.string ⟨L4.toArray⟩, .string ⟨#[48]⟩] W fun r w' => r = .returned (.tuple #[.int .i64 (tk Lib.indexByte [48] L4).1, .string ⟨(tk Lib.indexByte [48] L4).2.toArray⟩]) ∧ Below W.heap.size W w' := fun W => taken_any L4 [48] (by omega) (by decide) W
  have l5 := tk_len Lib.indexByte [48] L4
  rcases hT5 : tk Lib.indexByte [48] L4 with ⟨zx, L5⟩
  simp only [hT5] at k5
  rw [hT5] at l5
  dsimp only at l5
  have l6 := mW_len L5
  have hW1 : notZ L5 = true → mW L5 = (max (tkN L5).1 0, (tkN L5).2) := by
    intro h
    match L5, h with
    | b :: r, h =>
      show (if b = 48 then _ else _) = _
      rw [if_neg (by simpa [notZ] using h)]
  have hW0 : notZ L5 = false → mW L5 = (0, L5) := by
    intro h
    match L5, h with
    | [], _ => rfl
    | b :: r, h =>
      show (if b = 48 then _ else _) = _
      rw [if_pos (by simpa [notZ] using h)]
  have k6 : ∀ W, Calls Tryd.prog 56 #[.string ⟨L5.toArray⟩] W fun r w' => r = .returned (.tuple #[.int .i64 (tkN L5).1, .string ⟨(tkN L5).2.toArray⟩]) ∧ Below W.heap.size W w' := fun W => takeNumber_any ⟨L5.toArray⟩ (by show L5.length ≤ _; omega) W
  rcases hT6 : mW L5 with ⟨wi, L6⟩
  rw [hT6] at l6 hW1 hW0
  dsimp only at l6
  have k7 : ∀ W, Calls Tryd.prog 55 #[.string ⟨L6.toArray⟩, .string ⟨#[44, 95]⟩] W fun r w' => r = .returned (.tuple #[.int .i64 (tk Lib.indexByte gr2 L6).1, .string ⟨(tk Lib.indexByte gr2 L6).2.toArray⟩]) ∧ Below W.heap.size W w' := fun W => taken_any L6 gr2 (by omega) (by decide) W
  have l7 := tk_len Lib.indexByte gr2 L6
  rcases hT7 : tk Lib.indexByte gr2 L6 with ⟨gr, L7⟩
  simp only [hT7] at k7
  rw [hT7] at l7
  dsimp only at l7
  have k8 : ∀ W, Calls Tryd.prog 55 #[.string ⟨L7.toArray⟩, .string ⟨#[46]⟩] W fun r w' => r = .returned (.tuple #[.int .i64 (tk Lib.indexByte [46] L7).1, .string ⟨(tk Lib.indexByte [46] L7).2.toArray⟩]) ∧ Below W.heap.size W w' := fun W => taken_any L7 [46] (by omega) (by decide) W
  have l8 := tk_len Lib.indexByte [46] L7
  rcases hT8 : tk Lib.indexByte [46] L7 with ⟨px, L8⟩
  simp only [hT8] at k8
  rw [hT8] at l8
  dsimp only at l8
  have k9 : ∀ W, Calls Tryd.prog 56 #[.string ⟨L8.toArray⟩] W fun r w' => r = .returned (.tuple #[.int .i64 (tkN L8).1, .string ⟨(tkN L8).2.toArray⟩]) ∧ Below W.heap.size W w' := fun W => takeNumber_any ⟨L8.toArray⟩ (by show L8.length ≤ _; omega) W
  rcases hT9 : tkN L8 with ⟨nn, L9⟩
  simp only [hT9] at k9
  rcases hTN : tkN L5 with ⟨n5, L5n⟩
  simp only [hTN] at k6 hW1
  have hP : mpG l = if 0 < px then ⟨mfS F, al, si, decide (0 < ax), decide (0 < zx), wi, gr, nn, L9, decide (0 ≤ nn)⟩ else ⟨mfS F, al, si, decide (0 < ax), decide (0 < zx), wi, gr, -1, L8, true⟩ := by
    unfold mpG
    simp only [hT1, hT2, hT3, hT4, hT5, hT6, hT7, hT8, hT9]
  rw [hP]
  clear hP hT1 hT2 hT3 hT4 hT5 hT6 hT7 hT8 hT9 hTN l1 l2 l3 l4 l5 l6 l7 l8
  have HFS := Lib.hid hFs; have HFN := Lib.hid hFn; have HW1 := Lib.hid hW1; have HW0 := Lib.hid hW0
  clear hFs hFn hW1 hW0
  generalize hf : mfS F = f at *
  have HF := Lib.hid hf
  clear hf
  have K2 := Lib.hid k2; have K3 := Lib.hid k3; have K4 := Lib.hid k4; have K5 := Lib.hid k5; have K6 := Lib.hid k6; have K7 := Lib.hid k7; have K8 := Lib.hid k8; have K9 := Lib.hid k9
  clear k2 k3 k4 k5 k6 k7 k8 k9
  have zr0 : C9 ((w.alloc (.cells #[.string ⟨#[]⟩, .int .i64 0, .int .i64 0, .bool false, .bool false, .int .i64 0, .int .i64 0, .int .i64 0, .string ⟨#[]⟩] 25)).alloc (.cells #[.string ⟨#[]⟩, .int .i64 0, .int .i64 0, .bool false, .bool false, .int .i64 0, .int .i64 0, .int .i64 (-1), .string ⟨#[]⟩] 25)) w.heap.size (.string ⟨#[]⟩) (.int .i64 0) (.int .i64 0) (.bool false) (.bool false) (.int .i64 0) (.int .i64 0) (.int .i64 0) (.string ⟨#[]⟩) := (C9.new w (.string ⟨#[]⟩) (.int .i64 0) (.int .i64 0) (.bool false) (.bool false) (.int .i64 0) (.int .i64 0) (.int .i64 0) (.string ⟨#[]⟩) 25).up _
  have zs0 : C9 ((w.alloc (.cells #[.string ⟨#[]⟩, .int .i64 0, .int .i64 0, .bool false, .bool false, .int .i64 0, .int .i64 0, .int .i64 0, .string ⟨#[]⟩] 25)).alloc (.cells #[.string ⟨#[]⟩, .int .i64 0, .int .i64 0, .bool false, .bool false, .int .i64 0, .int .i64 0, .int .i64 (-1), .string ⟨#[]⟩] 25)) (w.heap.size + 1) (.string ⟨#[]⟩) (.int .i64 0) (.int .i64 0) (.bool false) (.bool false) (.int .i64 0) (.int .i64 0) (.int .i64 (-1)) (.string ⟨#[]⟩) := by
    have h := C9.new (w.alloc (.cells #[.string ⟨#[]⟩, .int .i64 0, .int .i64 0, .bool false, .bool false, .int .i64 0, .int .i64 0, .int .i64 0, .string ⟨#[]⟩] 25)) (.string ⟨#[]⟩) (.int .i64 0) (.int .i64 0) (.bool false) (.bool false) (.int .i64 0) (.int .i64 0) (.int .i64 (-1)) (.string ⟨#[]⟩) 25
    rw [show (w.alloc (.cells #[.string ⟨#[]⟩, .int .i64 0, .int .i64 0, .bool false, .bool false, .int .i64 0, .int .i64 0, .int .i64 0, .string ⟨#[]⟩] 25)).heap.size = w.heap.size + 1 by simp] at h
    exact h
  have hB0 : Below w.heap.size w ((w.alloc (.cells #[.string ⟨#[]⟩, .int .i64 0, .int .i64 0, .bool false, .bool false, .int .i64 0, .int .i64 0, .int .i64 0, .string ⟨#[]⟩] 25)).alloc (.cells #[.string ⟨#[]⟩, .int .i64 0, .int .i64 0, .bool false, .bool false, .int .i64 0, .int .i64 0, .int .i64 (-1), .string ⟨#[]⟩] 25)) := ((Below.refl _ _).alloc (Nat.le_refl _) _).alloc (by simp) _
  generalize hax : decide (0 < ax) = alt at *
  generalize hzx : decide (0 < zx) = ze at *
  generalize hV : mpV (if 0 < px then _ else _) l = VV at *
  have HV := Lib.hid hV
  clear hV
  have tok1 : ∃ n : Nat, n = 0 := ⟨0, rfl⟩
  have tok6 : ∃ n : Nat, n = 0 := ⟨0, rfl⟩
  go_enter Tryd.func26, Tryd.ntmps26
  go_upto_region 3 with (fail)
  go_cut [17] (fun s17 wx => wx = (w.alloc (.cells #[.string ⟨#[]⟩, .int .i64 0, .int .i64 0, .bool false, .bool false, .int .i64 0, .int .i64 0, .int .i64 0, .string ⟨#[]⟩] 25)).alloc (.cells #[.string ⟨#[]⟩, .int .i64 0, .int .i64 0, .bool false, .bool false, .int .i64 0, .int .i64 0, .int .i64 (-1), .string ⟨#[]⟩] 25) ∧ s17 = .bool (sndB l))
  case first =>
    match l with
    | [] =>
      go_wp2
      go_meet
      exact ⟨rfl, rfl⟩
    | [a] =>
      go_wp2
      go_meet
      exact ⟨rfl, rfl⟩
    | a :: b :: r =>
      have ki : ∀ W, Calls Tryd.prog 54 #[.string ⟨#[60, 62, 94, 61]⟩, .int .u8 b.toNat] W fun r w' => r = .returned (.int .i64 (Lib.indexByte al4 b)) ∧ W = w' := fun W => indexOfS_any ⟨#[60, 62, 94, 61]⟩ b (by decide) W
      show _
      have hx : ∀ h, (⟨(a :: b :: r).toArray⟩ : ByteArray)[1]'h = b := fun _ => rfl
      have hz1 : 1 < (⟨(a :: b :: r).toArray⟩ : ByteArray).size := by show 1 < (a :: b :: r).length; simp
      have hz2 : (1 : Int) < (⟨(a :: b :: r).toArray⟩ : ByteArray).size := by omega
      have hsn : sndB (a :: b :: r) = decide (0 ≤ Lib.indexByte al4 b) := rfl
      generalize Lib.indexByte al4 b = k at *
      have HSN := Lib.hid hsn
      generalize (⟨(a :: b :: r).toArray⟩ : ByteArray) = S at *
      have KI := Lib.hid ki
      clear ki hsn
      go_wp2_with (go_at_call 54; (with_reducible refine Calls.mono (KI.out _) ?_); rintro r w1 ⟨rfl, rfl⟩)
      go_meet
      exact ⟨rfl, by rw [HSN.out]⟩
  case rest =>
    obtain ⟨rfl, rfl⟩ := hcut
    go_upto_if 17 with (fail)
    go_cut [5] (fun s5 wx => s5 = .string ⟨L1.toArray⟩ ∧ C9 wx (w.heap.size + 1) (.string f) (.int .i64 0) (.int .i64 0) (.bool false) (.bool false) (.int .i64 0) (.int .i64 0) (.int .i64 (-1)) (.string ⟨#[]⟩) ∧ C9 wx w.heap.size (.string ⟨#[]⟩) (.int .i64 0) (.int .i64 0) (.bool false) (.bool false) (.int .i64 0) (.int .i64 0) (.int .i64 0) (.string ⟨#[]⟩) ∧ Below w.heap.size w wx)
    case first =>
      cases hs : sndB l
      · have h := HFN.out hs
        injection h with h1 h2
        subst h1 h2
        have hf : f = ⟨#[]⟩ := HF.out.symm
        subst hf
        go_wp2
        go_meet
        exact ⟨rfl, zs0, zr0, hB0⟩
      · obtain ⟨a, b, r, h0, h⟩ := HFS.out hs
        subst h0
        injection h with h1 h2
        subst h1 h2
        have hf : f = ⟨#[a]⟩ := HF.out.symm
        subst hf
        have e1 : (⟨(a :: b :: r).toArray⟩ : ByteArray).extract 0 1 = ⟨#[a]⟩ := ext_headP a (b :: r)
        have e2 : (⟨(a :: b :: r).toArray⟩ : ByteArray).extract 1 (⟨(a :: b :: r).toArray⟩ : ByteArray).size = ⟨(b :: r).toArray⟩ := ext_restP 1 (a :: b :: r)
        have z1 : 1 ≤ (⟨(a :: b :: r).toArray⟩ : ByteArray).size := by show 1 ≤ (a :: b :: r).length; simp
        have z2 : (1 : Int) ≤ (⟨(a :: b :: r).toArray⟩ : ByteArray).size := by omega
        generalize (⟨(a :: b :: r).toArray⟩ : ByteArray) = S at *
        have zs := zs0
        have zz := zs0
        obtain ⟨x0, x1, x2, x3, x4, x5, x6, x7, x8, xf, xl⟩ := zz
        go_wp2
        go_meet
        have zsF := C9.new (w.alloc (.cells #[.string ⟨#[]⟩, .int .i64 0, .int .i64 0, .bool false, .bool false, .int .i64 0, .int .i64 0, .int .i64 0, .string ⟨#[]⟩] 25)) (.string ⟨#[a]⟩) (.int .i64 0) (.int .i64 0) (.bool false) (.bool false) (.int .i64 0) (.int .i64 0) (.int .i64 (-1)) (.string ⟨#[]⟩) 25
        rw [show (w.alloc (.cells #[.string ⟨#[]⟩, .int .i64 0, .int .i64 0, .bool false, .bool false, .int .i64 0, .int .i64 0, .int .i64 0, .string ⟨#[]⟩] 25)).heap.size = w.heap.size + 1 by simp] at zsF
        exact ⟨rfl, zsF, (C9.new w (.string ⟨#[]⟩) (.int .i64 0) (.int .i64 0) (.bool false) (.bool false) (.int .i64 0) (.int .i64 0) (.int .i64 0) (.string ⟨#[]⟩) 25).up _, ((Below.refl _ _).alloc (Nat.le_refl _) _).alloc (by simp) _⟩
    case rest =>
      clear zs0 zr0 hB0
      obtain ⟨rfl, zs, zr, hB⟩ := hcut
      have zz := zs
      obtain ⟨x0, x1, x2, x3, x4, x5, x6, x7, x8, xf, xl⟩ := zz
      have hz := zs.lt
      go_upto_region 13 with (first | (go_at_call 55; (have tX := tok1); (fail_if_success (have tY := tok2)); (with_reducible refine Calls.mono (K2.out _) ?_); rintro r w1 ⟨rfl, hb⟩; have zsN := C9.carryP_of zs (by repeat (first | with_reducible assumption | with_reducible apply C9.up | (with_reducible apply C9.far; (case hn => (first | omega | (simp; omega)))) | with_reducible apply C9.set0 | with_reducible apply C9.set1 | with_reducible apply C9.set2 | with_reducible apply C9.set3 | with_reducible apply C9.set4 | with_reducible apply C9.set5 | with_reducible apply C9.set6 | with_reducible apply C9.set7 | with_reducible apply C9.set8 | with_reducible apply C9.drew)) hb; have zrN := C9.carryP_of zr (by repeat (first | with_reducible assumption | with_reducible apply C9.up | (with_reducible apply C9.far; (case hn => (first | omega | (simp; omega)))) | with_reducible apply C9.set0 | with_reducible apply C9.set1 | with_reducible apply C9.set2 | with_reducible apply C9.set3 | with_reducible apply C9.set4 | with_reducible apply C9.set5 | with_reducible apply C9.set6 | with_reducible apply C9.set7 | with_reducible apply C9.set8 | with_reducible apply C9.drew)) hb; have hBN : Below w.heap.size w w1 := (by refine Below.trans ?_ (hb.mono (by first | omega | (simp; done) | (simp <;> omega))); repeat (first | with_reducible exact Below.refl _ _ | with_reducible assumption | with_reducible refine Below.setCell ?_ (by first | omega | (simp; done) | (simp <;> omega)) _ | with_reducible refine below_drewN ?_ _ | with_reducible refine Below.drew ?_ | with_reducible refine Below.alloc ?_ (by first | omega | (simp; done) | (simp <;> omega)) _)); clear zs zr hB x0 x1 x2 x3 x4 x5 x6 x7 x8 xf xl; have zs := zsN; have zr := zrN; have hB := hBN; clear zsN zrN hBN; have zz := zs; obtain ⟨x0, x1, x2, x3, x4, x5, x6, x7, x8, xf, xl⟩ := zz; have hz := zs.lt; (try clear y0 y1 y2 y3 y4 y5 y6 y7 y8 yf yl); have zz2 := zr; obtain ⟨y0, y1, y2, y3, y4, y5, y6, y7, y8, yf, yl⟩ := zz2; have tok2 : ∃ n : Nat, n = 0 := ⟨0, rfl⟩) | (go_at_call 55; (have tX := tok2); (fail_if_success (have tY := tok3)); (with_reducible refine Calls.mono (K3.out _) ?_); rintro r w1 ⟨rfl, hb⟩; have zsN := C9.carryP_of zs (by repeat (first | with_reducible assumption | with_reducible apply C9.up | (with_reducible apply C9.far; (case hn => (first | omega | (simp; omega)))) | with_reducible apply C9.set0 | with_reducible apply C9.set1 | with_reducible apply C9.set2 | with_reducible apply C9.set3 | with_reducible apply C9.set4 | with_reducible apply C9.set5 | with_reducible apply C9.set6 | with_reducible apply C9.set7 | with_reducible apply C9.set8 | with_reducible apply C9.drew)) hb; have zrN := C9.carryP_of zr (by repeat (first | with_reducible assumption | with_reducible apply C9.up | (with_reducible apply C9.far; (case hn => (first | omega | (simp; omega)))) | with_reducible apply C9.set0 | with_reducible apply C9.set1 | with_reducible apply C9.set2 | with_reducible apply C9.set3 | with_reducible apply C9.set4 | with_reducible apply C9.set5 | with_reducible apply C9.set6 | with_reducible apply C9.set7 | with_reducible apply C9.set8 | with_reducible apply C9.drew)) hb; have hBN : Below w.heap.size w w1 := (by refine Below.trans ?_ (hb.mono (by first | omega | (simp; done) | (simp <;> omega))); repeat (first | with_reducible exact Below.refl _ _ | with_reducible assumption | with_reducible refine Below.setCell ?_ (by first | omega | (simp; done) | (simp <;> omega)) _ | with_reducible refine below_drewN ?_ _ | with_reducible refine Below.drew ?_ | with_reducible refine Below.alloc ?_ (by first | omega | (simp; done) | (simp <;> omega)) _)); clear zs zr hB x0 x1 x2 x3 x4 x5 x6 x7 x8 xf xl; have zs := zsN; have zr := zrN; have hB := hBN; clear zsN zrN hBN; have zz := zs; obtain ⟨x0, x1, x2, x3, x4, x5, x6, x7, x8, xf, xl⟩ := zz; have hz := zs.lt; (try clear y0 y1 y2 y3 y4 y5 y6 y7 y8 yf yl); have zz2 := zr; obtain ⟨y0, y1, y2, y3, y4, y5, y6, y7, y8, yf, yl⟩ := zz2; have tok3 : ∃ n : Nat, n = 0 := ⟨0, rfl⟩) | (go_at_call 55; (have tX := tok3); (fail_if_success (have tY := tok4)); (with_reducible refine Calls.mono (K4.out _) ?_); rintro r w1 ⟨rfl, hb⟩; have zsN := C9.carryP_of zs (by repeat (first | with_reducible assumption | with_reducible apply C9.up | (with_reducible apply C9.far; (case hn => (first | omega | (simp; omega)))) | with_reducible apply C9.set0 | with_reducible apply C9.set1 | with_reducible apply C9.set2 | with_reducible apply C9.set3 | with_reducible apply C9.set4 | with_reducible apply C9.set5 | with_reducible apply C9.set6 | with_reducible apply C9.set7 | with_reducible apply C9.set8 | with_reducible apply C9.drew)) hb; have zrN := C9.carryP_of zr (by repeat (first | with_reducible assumption | with_reducible apply C9.up | (with_reducible apply C9.far; (case hn => (first | omega | (simp; omega)))) | with_reducible apply C9.set0 | with_reducible apply C9.set1 | with_reducible apply C9.set2 | with_reducible apply C9.set3 | with_reducible apply C9.set4 | with_reducible apply C9.set5 | with_reducible apply C9.set6 | with_reducible apply C9.set7 | with_reducible apply C9.set8 | with_reducible apply C9.drew)) hb; have hBN : Below w.heap.size w w1 := (by refine Below.trans ?_ (hb.mono (by first | omega | (simp; done) | (simp <;> omega))); repeat (first | with_reducible exact Below.refl _ _ | with_reducible assumption | with_reducible refine Below.setCell ?_ (by first | omega | (simp; done) | (simp <;> omega)) _ | with_reducible refine below_drewN ?_ _ | with_reducible refine Below.drew ?_ | with_reducible refine Below.alloc ?_ (by first | omega | (simp; done) | (simp <;> omega)) _)); clear zs zr hB x0 x1 x2 x3 x4 x5 x6 x7 x8 xf xl; have zs := zsN; have zr := zrN; have hB := hBN; clear zsN zrN hBN; have zz := zs; obtain ⟨x0, x1, x2, x3, x4, x5, x6, x7, x8, xf, xl⟩ := zz; have hz := zs.lt; (try clear y0 y1 y2 y3 y4 y5 y6 y7 y8 yf yl); have zz2 := zr; obtain ⟨y0, y1, y2, y3, y4, y5, y6, y7, y8, yf, yl⟩ := zz2; have tok4 : ∃ n : Nat, n = 0 := ⟨0, rfl⟩) | (go_at_call 55; (have tX := tok4); (fail_if_success (have tY := tok5)); (with_reducible refine Calls.mono (K5.out _) ?_); rintro r w1 ⟨rfl, hb⟩; have zsN := C9.carryP_of zs (by repeat (first | with_reducible assumption | with_reducible apply C9.up | (with_reducible apply C9.far; (case hn => (first | omega | (simp; omega)))) | with_reducible apply C9.set0 | with_reducible apply C9.set1 | with_reducible apply C9.set2 | with_reducible apply C9.set3 | with_reducible apply C9.set4 | with_reducible apply C9.set5 | with_reducible apply C9.set6 | with_reducible apply C9.set7 | with_reducible apply C9.set8 | with_reducible apply C9.drew)) hb; have zrN := C9.carryP_of zr (by repeat (first | with_reducible assumption | with_reducible apply C9.up | (with_reducible apply C9.far; (case hn => (first | omega | (simp; omega)))) | with_reducible apply C9.set0 | with_reducible apply C9.set1 | with_reducible apply C9.set2 | with_reducible apply C9.set3 | with_reducible apply C9.set4 | with_reducible apply C9.set5 | with_reducible apply C9.set6 | with_reducible apply C9.set7 | with_reducible apply C9.set8 | with_reducible apply C9.drew)) hb; have hBN : Below w.heap.size w w1 := (by refine Below.trans ?_ (hb.mono (by first | omega | (simp; done) | (simp <;> omega))); repeat (first | with_reducible exact Below.refl _ _ | with_reducible assumption | with_reducible refine Below.setCell ?_ (by first | omega | (simp; done) | (simp <;> omega)) _ | with_reducible refine below_drewN ?_ _ | with_reducible refine Below.drew ?_ | with_reducible refine Below.alloc ?_ (by first | omega | (simp; done) | (simp <;> omega)) _)); clear zs zr hB x0 x1 x2 x3 x4 x5 x6 x7 x8 xf xl; have zs := zsN; have zr := zrN; have hB := hBN; clear zsN zrN hBN; have zz := zs; obtain ⟨x0, x1, x2, x3, x4, x5, x6, x7, x8, xf, xl⟩ := zz; have hz := zs.lt; (try clear y0 y1 y2 y3 y4 y5 y6 y7 y8 yf yl); have zz2 := zr; obtain ⟨y0, y1, y2, y3, y4, y5, y6, y7, y8, yf, yl⟩ := zz2; have tok5 : ∃ n : Nat, n = 0 := ⟨0, rfl⟩))
      replace zs := zs.set4 (.bool ze)
      replace zr := C9.far zr (b := w.heap.size + 1) (o := 4) (by omega) (.bool ze)
      replace hB := Below.setCell (p := ⟨w.heap.size + 1, 4, none⟩) hB (by simp) (.bool ze)
      clear x0 x1 x2 x3 x4 x5 x6 x7 x8 xf xl
      have zz := zs
      obtain ⟨x0, x1, x2, x3, x4, x5, x6, x7, x8, xf, xl⟩ := zz
      go_cut [57] (fun s57 wx => s57 = .bool (notZ L5) ∧ C9 wx (w.heap.size + 1) (.string f) (.int .i64 al) (.int .i64 si) (.bool alt) (.bool ze) (.int .i64 0) (.int .i64 0) (.int .i64 (-1)) (.string ⟨#[]⟩) ∧ C9 wx w.heap.size (.string ⟨#[]⟩) (.int .i64 0) (.int .i64 0) (.bool false) (.bool false) (.int .i64 0) (.int .i64 0) (.int .i64 0) (.string ⟨#[]⟩) ∧ Below w.heap.size w wx)
      case first =>
        cases L5 with
        | nil =>
          go_wp2
          go_meet
          exact ⟨rfl, zs, zr, hB⟩
        | cons b r =>
          have hx : ∀ h, (⟨(b :: r).toArray⟩ : ByteArray)[0]'h = b := fun _ => rfl
          have hz1 : 0 < (⟨(b :: r).toArray⟩ : ByteArray).size := by show 0 < (b :: r).length; simp
          have hne := nonempty_list (s := ⟨(b :: r).toArray⟩) hz1
          have hsn : notZ (b :: r) = !(b == 48) := rfl
          have HSN := Lib.hid hsn
          clear K6 HW1 HW0 K7 K8 K9
          generalize hS : (⟨(b :: r).toArray⟩ : ByteArray) = S at hx hz1 hne ⊢
          have HSS := Lib.hid hS
          clear hS
          clear hsn
          by_cases hb : b = 48
          · subst hb
            go_wp2
            have hS := HSS.out
            subst hS
            go_meet
            exact ⟨by rw [HSN.out]; rfl, zs, zr, hB⟩
          · have n1 : ((b.toNat : Int) == 48) = false := by
              have : ¬ b.toNat = 48 := fun e => hb (by apply UInt8.toNat_inj.1; exact e)
              simp; omega
            have n2 : ((b.toNat : Int) != 48) = true := by rw [bne, n1]; rfl
            go_wp2
            have hS := HSS.out
            subst hS
            go_meet
            exact ⟨by rw [HSN.out]; simp [hb], zs, zr, hB⟩
      case rest =>
        clear zs zr hB x0 x1 x2 x3 x4 x5 x6 x7 x8 xf xl hz y0 y1 y2 y3 y4 y5 y6 y7 y8 yf yl
        obtain ⟨rfl, zs, zr, hB⟩ := hcut
        have zz := zs
        obtain ⟨x0, x1, x2, x3, x4, x5, x6, x7, x8, xf, xl⟩ := zz
        have hz := zs.lt
        go_upto_if 57 with (fail)
        go_cut [5] (fun s5 wx => s5 = .string ⟨L6.toArray⟩ ∧ C9 wx (w.heap.size + 1) (.string f) (.int .i64 al) (.int .i64 si) (.bool alt) (.bool ze) (.int .i64 wi) (.int .i64 0) (.int .i64 (-1)) (.string ⟨#[]⟩) ∧ C9 wx w.heap.size (.string ⟨#[]⟩) (.int .i64 0) (.int .i64 0) (.bool false) (.bool false) (.int .i64 0) (.int .i64 0) (.int .i64 0) (.string ⟨#[]⟩) ∧ Below w.heap.size w wx)
        case first =>
          cases hs : notZ L5
          · have h := HW0.out hs
            injection h with h1 h2
            subst h1 h2
            go_wp2
            go_meet
            exact ⟨rfl, zs, zr, hB⟩
          · have h := HW1.out hs
            injection h with h1 h2
            subst h1 h2
            go_wp2_with (first | (go_at_call 56; (with_reducible refine Calls.mono (K6.out _) ?_); rintro r w1 ⟨rfl, hb⟩; have zsN := C9.carryP_of zs (by repeat (first | with_reducible assumption | with_reducible apply C9.up | (with_reducible apply C9.far; (case hn => (first | omega | (simp; omega)))) | with_reducible apply C9.set0 | with_reducible apply C9.set1 | with_reducible apply C9.set2 | with_reducible apply C9.set3 | with_reducible apply C9.set4 | with_reducible apply C9.set5 | with_reducible apply C9.set6 | with_reducible apply C9.set7 | with_reducible apply C9.set8 | with_reducible apply C9.drew)) hb; have zrN := C9.carryP_of zr (by repeat (first | with_reducible assumption | with_reducible apply C9.up | (with_reducible apply C9.far; (case hn => (first | omega | (simp; omega)))) | with_reducible apply C9.set0 | with_reducible apply C9.set1 | with_reducible apply C9.set2 | with_reducible apply C9.set3 | with_reducible apply C9.set4 | with_reducible apply C9.set5 | with_reducible apply C9.set6 | with_reducible apply C9.set7 | with_reducible apply C9.set8 | with_reducible apply C9.drew)) hb; have hBN : Below w.heap.size w w1 := (by refine Below.trans ?_ (hb.mono (by first | omega | (simp; done) | (simp <;> omega))); repeat (first | with_reducible exact Below.refl _ _ | with_reducible assumption | with_reducible refine Below.setCell ?_ (by first | omega | (simp; done) | (simp <;> omega)) _ | with_reducible refine below_drewN ?_ _ | with_reducible refine Below.drew ?_ | with_reducible refine Below.alloc ?_ (by first | omega | (simp; done) | (simp <;> omega)) _)); clear zs zr hB x0 x1 x2 x3 x4 x5 x6 x7 x8 xf xl; have zs := zsN; have zr := zrN; have hB := hBN; clear zsN zrN hBN; have zz := zs; obtain ⟨x0, x1, x2, x3, x4, x5, x6, x7, x8, xf, xl⟩ := zz; have hz := zs.lt; (try clear y0 y1 y2 y3 y4 y5 y6 y7 y8 yf yl); have zz2 := zr; obtain ⟨y0, y1, y2, y3, y4, y5, y6, y7, y8, yf, yl⟩ := zz2))
            go_meet
            exact ⟨rfl, (by repeat (first | with_reducible assumption | with_reducible apply C9.up | (with_reducible apply C9.far; (case hn => (first | omega | (simp; omega)))) | with_reducible apply C9.set0 | with_reducible apply C9.set1 | with_reducible apply C9.set2 | with_reducible apply C9.set3 | with_reducible apply C9.set4 | with_reducible apply C9.set5 | with_reducible apply C9.set6 | with_reducible apply C9.set7 | with_reducible apply C9.set8 | with_reducible apply C9.drew)), (zr.far (by omega) _), (by repeat (first | with_reducible exact Below.refl _ _ | with_reducible assumption | with_reducible refine Below.setCell ?_ (by first | omega | (simp; done) | (simp <;> omega)) _ | with_reducible refine below_drewN ?_ _ | with_reducible refine Below.drew ?_ | with_reducible refine Below.alloc ?_ (by first | omega | (simp; done) | (simp <;> omega)) _))⟩
        case rest =>
          clear zs zr hB x0 x1 x2 x3 x4 x5 x6 x7 x8 xf xl hz
          obtain ⟨rfl, zs, zr, hB⟩ := hcut
          have zz := zs
          obtain ⟨x0, x1, x2, x3, x4, x5, x6, x7, x8, xf, xl⟩ := zz
          have hz := zs.lt
          go_upto_if 78 with (first | (go_at_call 55; (have tX := tok6); (fail_if_success (have tY := tok7)); (with_reducible refine Calls.mono (K7.out _) ?_); rintro r w1 ⟨rfl, hb⟩; have zsN := C9.carryP_of zs (by repeat (first | with_reducible assumption | with_reducible apply C9.up | (with_reducible apply C9.far; (case hn => (first | omega | (simp; omega)))) | with_reducible apply C9.set0 | with_reducible apply C9.set1 | with_reducible apply C9.set2 | with_reducible apply C9.set3 | with_reducible apply C9.set4 | with_reducible apply C9.set5 | with_reducible apply C9.set6 | with_reducible apply C9.set7 | with_reducible apply C9.set8 | with_reducible apply C9.drew)) hb; have zrN := C9.carryP_of zr (by repeat (first | with_reducible assumption | with_reducible apply C9.up | (with_reducible apply C9.far; (case hn => (first | omega | (simp; omega)))) | with_reducible apply C9.set0 | with_reducible apply C9.set1 | with_reducible apply C9.set2 | with_reducible apply C9.set3 | with_reducible apply C9.set4 | with_reducible apply C9.set5 | with_reducible apply C9.set6 | with_reducible apply C9.set7 | with_reducible apply C9.set8 | with_reducible apply C9.drew)) hb; have hBN : Below w.heap.size w w1 := (by refine Below.trans ?_ (hb.mono (by first | omega | (simp; done) | (simp <;> omega))); repeat (first | with_reducible exact Below.refl _ _ | with_reducible assumption | with_reducible refine Below.setCell ?_ (by first | omega | (simp; done) | (simp <;> omega)) _ | with_reducible refine below_drewN ?_ _ | with_reducible refine Below.drew ?_ | with_reducible refine Below.alloc ?_ (by first | omega | (simp; done) | (simp <;> omega)) _)); clear zs zr hB x0 x1 x2 x3 x4 x5 x6 x7 x8 xf xl; have zs := zsN; have zr := zrN; have hB := hBN; clear zsN zrN hBN; have zz := zs; obtain ⟨x0, x1, x2, x3, x4, x5, x6, x7, x8, xf, xl⟩ := zz; have hz := zs.lt; (try clear y0 y1 y2 y3 y4 y5 y6 y7 y8 yf yl); have zz2 := zr; obtain ⟨y0, y1, y2, y3, y4, y5, y6, y7, y8, yf, yl⟩ := zz2; have tok7 : ∃ n : Nat, n = 0 := ⟨0, rfl⟩) | (go_at_call 55; (have tX := tok7); (fail_if_success (have tY := tok8)); (with_reducible refine Calls.mono (K8.out _) ?_); rintro r w1 ⟨rfl, hb⟩; have zsN := C9.carryP_of zs (by repeat (first | with_reducible assumption | with_reducible apply C9.up | (with_reducible apply C9.far; (case hn => (first | omega | (simp; omega)))) | with_reducible apply C9.set0 | with_reducible apply C9.set1 | with_reducible apply C9.set2 | with_reducible apply C9.set3 | with_reducible apply C9.set4 | with_reducible apply C9.set5 | with_reducible apply C9.set6 | with_reducible apply C9.set7 | with_reducible apply C9.set8 | with_reducible apply C9.drew)) hb; have zrN := C9.carryP_of zr (by repeat (first | with_reducible assumption | with_reducible apply C9.up | (with_reducible apply C9.far; (case hn => (first | omega | (simp; omega)))) | with_reducible apply C9.set0 | with_reducible apply C9.set1 | with_reducible apply C9.set2 | with_reducible apply C9.set3 | with_reducible apply C9.set4 | with_reducible apply C9.set5 | with_reducible apply C9.set6 | with_reducible apply C9.set7 | with_reducible apply C9.set8 | with_reducible apply C9.drew)) hb; have hBN : Below w.heap.size w w1 := (by refine Below.trans ?_ (hb.mono (by first | omega | (simp; done) | (simp <;> omega))); repeat (first | with_reducible exact Below.refl _ _ | with_reducible assumption | with_reducible refine Below.setCell ?_ (by first | omega | (simp; done) | (simp <;> omega)) _ | with_reducible refine below_drewN ?_ _ | with_reducible refine Below.drew ?_ | with_reducible refine Below.alloc ?_ (by first | omega | (simp; done) | (simp <;> omega)) _)); clear zs zr hB x0 x1 x2 x3 x4 x5 x6 x7 x8 xf xl; have zs := zsN; have zr := zrN; have hB := hBN; clear zsN zrN hBN; have zz := zs; obtain ⟨x0, x1, x2, x3, x4, x5, x6, x7, x8, xf, xl⟩ := zz; have hz := zs.lt; (try clear y0 y1 y2 y3 y4 y5 y6 y7 y8 yf yl); have zz2 := zr; obtain ⟨y0, y1, y2, y3, y4, y5, y6, y7, y8, yf, yl⟩ := zz2; have tok8 : ∃ n : Nat, n = 0 := ⟨0, rfl⟩))
          go_cut [5] (fun s5 wx => ∃ pr R, s5 = .string ⟨R.toArray⟩ ∧ C9 wx (w.heap.size + 1) (.string f) (.int .i64 al) (.int .i64 si) (.bool alt) (.bool ze) (.int .i64 wi) (.int .i64 gr) (.int .i64 pr) (.string ⟨#[]⟩) ∧ C9 wx w.heap.size (.string ⟨#[]⟩) (.int .i64 0) (.int .i64 0) (.bool false) (.bool false) (.int .i64 0) (.int .i64 0) (.int .i64 0) (.string ⟨#[]⟩) ∧ Below w.heap.size w wx ∧ VV = .tuple #[.agg #[.string f, .int .i64 al, .int .i64 si, .bool alt, .bool ze, .int .i64 wi, .int .i64 gr, .int .i64 pr, .string ⟨R.toArray⟩], .bool (vSp f al si wi gr pr ⟨R.toArray⟩ && (spL f.data.toList al si alt ze wi gr pr R == l))])
          case first =>
            by_cases hp : 0 < px
            · by_cases hn : nn < 0
              · go_upto_region 21 with (first | (go_at_call 56; (with_reducible refine Calls.mono (K9.out _) ?_); rintro r w1 ⟨rfl, hb⟩; have zsN := C9.carryP_of zs (by repeat (first | with_reducible assumption | with_reducible apply C9.up | (with_reducible apply C9.far; (case hn => (first | omega | (simp; omega)))) | with_reducible apply C9.set0 | with_reducible apply C9.set1 | with_reducible apply C9.set2 | with_reducible apply C9.set3 | with_reducible apply C9.set4 | with_reducible apply C9.set5 | with_reducible apply C9.set6 | with_reducible apply C9.set7 | with_reducible apply C9.set8 | with_reducible apply C9.drew)) hb; have zrN := C9.carryP_of zr (by repeat (first | with_reducible assumption | with_reducible apply C9.up | (with_reducible apply C9.far; (case hn => (first | omega | (simp; omega)))) | with_reducible apply C9.set0 | with_reducible apply C9.set1 | with_reducible apply C9.set2 | with_reducible apply C9.set3 | with_reducible apply C9.set4 | with_reducible apply C9.set5 | with_reducible apply C9.set6 | with_reducible apply C9.set7 | with_reducible apply C9.set8 | with_reducible apply C9.drew)) hb; have hBN : Below w.heap.size w w1 := (by refine Below.trans ?_ (hb.mono (by first | omega | (simp; done) | (simp <;> omega))); repeat (first | with_reducible exact Below.refl _ _ | with_reducible assumption | with_reducible refine Below.setCell ?_ (by first | omega | (simp; done) | (simp <;> omega)) _ | with_reducible refine below_drewN ?_ _ | with_reducible refine Below.drew ?_ | with_reducible refine Below.alloc ?_ (by first | omega | (simp; done) | (simp <;> omega)) _)); clear zs zr hB x0 x1 x2 x3 x4 x5 x6 x7 x8 xf xl; have zs := zsN; have zr := zrN; have hB := hBN; clear zsN zrN hBN; have zz := zs; obtain ⟨x0, x1, x2, x3, x4, x5, x6, x7, x8, xf, xl⟩ := zz; have hz := zs.lt; (try clear y0 y1 y2 y3 y4 y5 y6 y7 y8 yf yl); have zz2 := zr; obtain ⟨y0, y1, y2, y3, y4, y5, y6, y7, y8, yf, yl⟩ := zz2))
                have zrF := zr.far (b := w.heap.size + 1) (o := 7) (by omega) (.int .i64 nn)
                have hBF : Below w.heap.size w (w1.setCell ⟨w.heap.size + 1, 7, none⟩ (.int .i64 nn)) := (by repeat (first | with_reducible exact Below.refl _ _ | with_reducible assumption | with_reducible refine Below.setCell ?_ (by first | omega | (simp; done) | (simp <;> omega)) _ | with_reducible refine below_drewN ?_ _ | with_reducible refine Below.drew ?_ | with_reducible refine Below.alloc ?_ (by first | omega | (simp; done) | (simp <;> omega)) _))
                generalize hWW : World.setCell _ ⟨w.heap.size + 1, 7, none⟩ (.int .i64 nn) = W at zrF hBF ⊢
                clear hWW zs zr hB x0 x1 x2 x3 x4 x5 x6 x7 x8 xf xl y0 y1 y2 y3 y4 y5 y6 y7 y8 yf yl hz K2 K3 K4 K5 K6 K7 K8 K9 HFS HFN HW1 HW0 HF hb
                obtain ⟨y0, y1, y2, y3, y4, y5, y6, y7, y8, yf, yl⟩ := zrF
                repeat (first | go_values | go_skip | go_guarded | go_step | go_upon)
                refine bodyPost_ret (v := .tuple #[.agg #[.string ⟨#[]⟩, .int .i64 0, .int .i64 0, .bool false, .bool false, .int .i64 0, .int .i64 0, .int .i64 0, .string ⟨#[]⟩], .bool false]) ?_ rfl ⟨by rw [← HV.out, if_pos hp]; unfold mpV; dsimp only; rw [decide_eq_false (show ¬ 0 ≤ nn by omega)]; rfl, (by repeat (first | with_reducible exact Below.refl _ _ | with_reducible assumption | with_reducible refine Below.setCell ?_ (by first | omega | (simp; done) | (simp <;> omega)) _ | with_reducible refine below_drewN ?_ _ | with_reducible refine Below.drew ?_ | with_reducible refine Below.alloc ?_ (by first | omega | (simp; done) | (simp <;> omega)) _))⟩
                simp [results, Tryd.results26, go_sem, *]
              · go_wp2_with (first | (go_at_call 56; (with_reducible refine Calls.mono (K9.out _) ?_); rintro r w1 ⟨rfl, hb⟩; have zsN := C9.carryP_of zs (by repeat (first | with_reducible assumption | with_reducible apply C9.up | (with_reducible apply C9.far; (case hn => (first | omega | (simp; omega)))) | with_reducible apply C9.set0 | with_reducible apply C9.set1 | with_reducible apply C9.set2 | with_reducible apply C9.set3 | with_reducible apply C9.set4 | with_reducible apply C9.set5 | with_reducible apply C9.set6 | with_reducible apply C9.set7 | with_reducible apply C9.set8 | with_reducible apply C9.drew)) hb; have zrN := C9.carryP_of zr (by repeat (first | with_reducible assumption | with_reducible apply C9.up | (with_reducible apply C9.far; (case hn => (first | omega | (simp; omega)))) | with_reducible apply C9.set0 | with_reducible apply C9.set1 | with_reducible apply C9.set2 | with_reducible apply C9.set3 | with_reducible apply C9.set4 | with_reducible apply C9.set5 | with_reducible apply C9.set6 | with_reducible apply C9.set7 | with_reducible apply C9.set8 | with_reducible apply C9.drew)) hb; have hBN : Below w.heap.size w w1 := (by refine Below.trans ?_ (hb.mono (by first | omega | (simp; done) | (simp <;> omega))); repeat (first | with_reducible exact Below.refl _ _ | with_reducible assumption | with_reducible refine Below.setCell ?_ (by first | omega | (simp; done) | (simp <;> omega)) _ | with_reducible refine below_drewN ?_ _ | with_reducible refine Below.drew ?_ | with_reducible refine Below.alloc ?_ (by first | omega | (simp; done) | (simp <;> omega)) _)); clear zs zr hB x0 x1 x2 x3 x4 x5 x6 x7 x8 xf xl; have zs := zsN; have zr := zrN; have hB := hBN; clear zsN zrN hBN; have zz := zs; obtain ⟨x0, x1, x2, x3, x4, x5, x6, x7, x8, xf, xl⟩ := zz; have hz := zs.lt; (try clear y0 y1 y2 y3 y4 y5 y6 y7 y8 yf yl); have zz2 := zr; obtain ⟨y0, y1, y2, y3, y4, y5, y6, y7, y8, yf, yl⟩ := zz2))
                go_meet
                refine ⟨nn, L9, rfl, (by repeat (first | with_reducible assumption | with_reducible apply C9.up | (with_reducible apply C9.far; (case hn => (first | omega | (simp; omega)))) | with_reducible apply C9.set0 | with_reducible apply C9.set1 | with_reducible apply C9.set2 | with_reducible apply C9.set3 | with_reducible apply C9.set4 | with_reducible apply C9.set5 | with_reducible apply C9.set6 | with_reducible apply C9.set7 | with_reducible apply C9.set8 | with_reducible apply C9.drew)), (zr.far (by omega) _), (by repeat (first | with_reducible exact Below.refl _ _ | with_reducible assumption | with_reducible refine Below.setCell ?_ (by first | omega | (simp; done) | (simp <;> omega)) _ | with_reducible refine below_drewN ?_ _ | with_reducible refine Below.drew ?_ | with_reducible refine Below.alloc ?_ (by first | omega | (simp; done) | (simp <;> omega)) _)), ?_⟩
                rw [← HV.out, if_pos hp]
                unfold mpV mpOk
                dsimp only
                rw [decide_eq_true (show 0 ≤ nn by omega)]; rfl
            · go_wp2
              go_meet
              refine ⟨-1, L8, rfl, (by repeat (first | with_reducible assumption | with_reducible apply C9.up | (with_reducible apply C9.far; (case hn => (first | omega | (simp; omega)))) | with_reducible apply C9.set0 | with_reducible apply C9.set1 | with_reducible apply C9.set2 | with_reducible apply C9.set3 | with_reducible apply C9.set4 | with_reducible apply C9.set5 | with_reducible apply C9.set6 | with_reducible apply C9.set7 | with_reducible apply C9.set8 | with_reducible apply C9.drew)), (by repeat (first | with_reducible assumption | with_reducible apply C9.up | (with_reducible apply C9.far; (case hn => (first | omega | (simp; omega)))) | with_reducible apply C9.set0 | with_reducible apply C9.set1 | with_reducible apply C9.set2 | with_reducible apply C9.set3 | with_reducible apply C9.set4 | with_reducible apply C9.set5 | with_reducible apply C9.set6 | with_reducible apply C9.set7 | with_reducible apply C9.set8 | with_reducible apply C9.drew)), (by repeat (first | with_reducible exact Below.refl _ _ | with_reducible assumption | with_reducible refine Below.setCell ?_ (by first | omega | (simp; done) | (simp <;> omega)) _ | with_reducible refine below_drewN ?_ _ | with_reducible refine Below.drew ?_ | with_reducible refine Below.alloc ?_ (by first | omega | (simp; done) | (simp <;> omega)) _)), ?_⟩
              rw [← HV.out, if_neg (by omega)]
              unfold mpV mpOk
              dsimp only
              rfl
          case rest =>
            clear zs zr hB x0 x1 x2 x3 x4 x5 x6 x7 x8 xf xl hz y0 y1 y2 y3 y4 y5 y6 y7 y8 yf yl
            obtain ⟨pr, R, rfl, zs, zr, hB, hM⟩ := hcut
            clear K2 K3 K4 K5 K6 K7 K8 K9 HFS HFN HW1 HW0 HF HV
            have zz := zs
            obtain ⟨x0, x1, x2, x3, x4, x5, x6, x7, x8, xf, xl⟩ := zz
            have hz := zs.lt
            go_upto_region 23 with (fail)
            replace zs := zs.set8 (.string ⟨R.toArray⟩)
            replace zr := C9.far zr (b := w.heap.size + 1) (o := 8) (by omega) (.string ⟨R.toArray⟩)
            replace hB := Below.setCell (p := ⟨w.heap.size + 1, 8, none⟩) hB (by simp) (.string ⟨R.toArray⟩)
            clear x0 x1 x2 x3 x4 x5 x6 x7 x8 xf xl hz
            generalize hW : World.setCell _ ⟨w.heap.size + 1, 8, none⟩ (.string ⟨R.toArray⟩) = W at zs zr hB ⊢
            clear hW
            have hwz := hB.size
            have hz := zs.lt
            obtain ⟨s0, s1, s2, s3, s4, s5, s6, s7, s8⟩ := C9.since zs
            obtain ⟨q0, q1, q2, q3, q4, q5, q6, q7, q8⟩ := C9.since zr
            have qf : ∀ (p : Since W) (o : Nat), p.v.frozen? ⟨w.heap.size, o, none⟩ = false := fun p => (zr.carry p.h).fz
            have ql : ∀ p : Since W, w.heap.size < p.v.heap.size := fun p => (zr.carry p.h).lt
            have qB : ∀ p : Since W, Below w.heap.size w p.v := fun p => hB.trans (p.h.mono (by omega))
            have QB := Lib.hid qB
            clear qB
            have zz := zs
            obtain ⟨x0, x1, x2, x3, x4, x5, x6, x7, x8, xf, xl⟩ := zz
            have zz2 := zr
            obtain ⟨y0, y1, y2, y3, y4, y5, y6, y7, y8, yf, yl⟩ := zz2
            have kv := fun W => validSpecS_any f al si alt ze wi gr pr ⟨R.toArray⟩ W
            cases hv : vSp f al si wi gr pr ⟨R.toArray⟩
            · rw [hv] at kv hM
              have KV := Lib.hid kv
              clear kv hv
              have HM := Lib.hid hM
              clear hM
              refine wp_region_any (by kernel_rfl) ?_
              change wpAny _ _ _ _ _ _ _ (World.drew _)
              refine wpAny_ready (rs := [0, 1]) (by kernel_rfl) (by simp) ?_
              refine AllReady.cons rfl (fun K hK => ?_) (AllReady.cons rfl (fun K hK => ?_) AllReady.nil)
              · go_simp
                refine hK _ _ ?_; clear hK K
                refine wpAny_ready (rs := [1]) (by kernel_rfl) (by simp) ?_
                refine AllReady.cons rfl (fun K hK => ?_) AllReady.nil
                go_simp
                refine hK _ _ ?_; clear hK K
                refine wpAny_ready (rs := [2]) (by kernel_rfl) (by simp) ?_
                refine AllReady.cons rfl (fun K hK => ?_) AllReady.nil
                go_simp
                go_wp2_with (first | (go_at_call 57; (with_reducible refine Calls.mono (KV.out _) ?_); rintro r w1 ⟨rfl, hb⟩; obtain ⟨q, hq⟩ : ∃ q : Since W, w1 = q.v := ⟨⟨w1, Below.trans ((Below.refl _ _).drew) hb⟩, rfl⟩; subst hq; clear hb) | (go_at_call 57; (with_reducible refine Calls.mono (KV.out _) ?_); rintro r w1 ⟨rfl, hb⟩; obtain ⟨q, hq⟩ : ∃ q : Since W, w1 = q.v := ⟨⟨w1, Below.trans (Since.h _) (hb.mono (Since.h _).size)⟩, rfl⟩; subst hq; clear hb))
                refine wpAny_take (i := 3) (v := .bool false) rfl (by kernel_rfl) (by kernel_rfl) (by kernel_rfl) (fun _ _ _ h => h) (Or.inl ⟨by rfl, by intro w; go_simp⟩) ?_
                refine wpAny_take (i := 4) (v := undef) rfl (by kernel_rfl) (by kernel_rfl) (by kernel_rfl) (fun _ _ _ h => h) (Or.inr ⟨by rfl, rfl⟩) ?_
                refine wpAny_take (i := 5) (v := undef) rfl (by kernel_rfl) (by kernel_rfl) (by kernel_rfl) (fun _ _ _ h => h) (Or.inr ⟨by rfl, rfl⟩) ?_
                refine wpAny_take (i := 6) (v := undef) rfl (by kernel_rfl) (by kernel_rfl) (by kernel_rfl) (fun _ _ _ h => h) (Or.inr ⟨by rfl, rfl⟩) ?_
                refine wpAny_take (i := 7) (v := undef) rfl (by kernel_rfl) (by kernel_rfl) (by kernel_rfl) (fun _ _ _ h => h) (Or.inr ⟨by rfl, rfl⟩) ?_
                refine wpAny_take (i := 8) (v := .bool false) rfl (by kernel_rfl) (by kernel_rfl) (by kernel_rfl) (fun _ _ _ h => h) (Or.inl ⟨by rfl, by intro w; go_simp⟩) ?_
                refine wpAny_ready (rs := [9]) (by kernel_rfl) (by simp) ?_
                refine AllReady.cons rfl (fun K hK => ?_) AllReady.nil
                go_simp
                refine hK _ _ ?_; clear hK K
                refine wpAny_ready (rs := [10]) (by kernel_rfl) (by simp) ?_
                refine AllReady.cons rfl (fun K hK => ?_) AllReady.nil
                go_simp
                refine hK _ _ ?_; clear hK K
                refine wpAny_done (by kernel_rfl) ?_ _
                have zE := ((((((((((C9.carry zr q.h).set0 (.string f)).set1 (.int .i64 al)).set2 (.int .i64 si)).set3 (.bool alt)).set4 (.bool ze)).set5 (.int .i64 wi)).set6 (.int .i64 gr)).set7 (.int .i64 pr)).set8 (.string ⟨R.toArray⟩))
                have hE := QB.out q
                replace hE := Below.setCell (p := ⟨w.heap.size, 0, none⟩) hE (by simp) (.string f)
                replace hE := Below.setCell (p := ⟨w.heap.size, 1, none⟩) hE (by simp) (.int .i64 al)
                replace hE := Below.setCell (p := ⟨w.heap.size, 2, none⟩) hE (by simp) (.int .i64 si)
                replace hE := Below.setCell (p := ⟨w.heap.size, 3, none⟩) hE (by simp) (.bool alt)
                replace hE := Below.setCell (p := ⟨w.heap.size, 4, none⟩) hE (by simp) (.bool ze)
                replace hE := Below.setCell (p := ⟨w.heap.size, 5, none⟩) hE (by simp) (.int .i64 wi)
                replace hE := Below.setCell (p := ⟨w.heap.size, 6, none⟩) hE (by simp) (.int .i64 gr)
                replace hE := Below.setCell (p := ⟨w.heap.size, 7, none⟩) hE (by simp) (.int .i64 pr)
                replace hE := Below.setCell (p := ⟨w.heap.size, 8, none⟩) hE (by simp) (.string ⟨R.toArray⟩)
                generalize hWE : World.setCell _ ⟨w.heap.size, 8, none⟩ (.string ⟨R.toArray⟩) = V at zE hE ⊢
                clear hWE x0 x1 x2 x3 x4 x5 x6 x7 x8 xf xl y0 y1 y2 y3 y4 y5 y6 y7 y8 yf yl s0 s1 s2 s3 s4 s5 s6 s7 s8 q0 q1 q2 q3 q4 q5 q6 q7 q8 qf ql zs zr q KV QB hB
                obtain ⟨e0, e1, e2, e3, e4, e5, e6, e7, e8, ef, el⟩ := zE
                repeat (first | go_values | go_skip | go_guarded | go_step | go_upon)
                refine bodyPost_ret (v := .tuple #[.agg #[.string f, .int .i64 al, .int .i64 si, .bool alt, .bool ze, .int .i64 wi, .int .i64 gr, .int .i64 pr, .string ⟨R.toArray⟩], .bool false]) ?_ rfl ⟨by rw [HM.out]; rfl, hE⟩
                simp [results, Tryd.results26, go_sem, *]
              · go_simp
                refine hK _ _ ?_; clear hK K
                refine wpAny_ready (rs := [0, 2]) (by kernel_rfl) (by simp) ?_
                refine AllReady.cons rfl (fun K hK => ?_) (AllReady.cons rfl (fun K hK => ?_) AllReady.nil)
                · go_simp
                  refine hK _ _ ?_; clear hK K
                  refine wpAny_ready (rs := [2]) (by kernel_rfl) (by simp) ?_
                  refine AllReady.cons rfl (fun K hK => ?_) AllReady.nil
                  go_simp
                  go_wp2_with (first | (go_at_call 57; (with_reducible refine Calls.mono (KV.out _) ?_); rintro r w1 ⟨rfl, hb⟩; obtain ⟨q, hq⟩ : ∃ q : Since W, w1 = q.v := ⟨⟨w1, Below.trans ((Below.refl _ _).drew) hb⟩, rfl⟩; subst hq; clear hb) | (go_at_call 57; (with_reducible refine Calls.mono (KV.out _) ?_); rintro r w1 ⟨rfl, hb⟩; obtain ⟨q, hq⟩ : ∃ q : Since W, w1 = q.v := ⟨⟨w1, Below.trans (Since.h _) (hb.mono (Since.h _).size)⟩, rfl⟩; subst hq; clear hb))
                  refine wpAny_take (i := 3) (v := .bool false) rfl (by kernel_rfl) (by kernel_rfl) (by kernel_rfl) (fun _ _ _ h => h) (Or.inl ⟨by rfl, by intro w; go_simp⟩) ?_
                  refine wpAny_take (i := 4) (v := undef) rfl (by kernel_rfl) (by kernel_rfl) (by kernel_rfl) (fun _ _ _ h => h) (Or.inr ⟨by rfl, rfl⟩) ?_
                  refine wpAny_take (i := 5) (v := undef) rfl (by kernel_rfl) (by kernel_rfl) (by kernel_rfl) (fun _ _ _ h => h) (Or.inr ⟨by rfl, rfl⟩) ?_
                  refine wpAny_take (i := 6) (v := undef) rfl (by kernel_rfl) (by kernel_rfl) (by kernel_rfl) (fun _ _ _ h => h) (Or.inr ⟨by rfl, rfl⟩) ?_
                  refine wpAny_take (i := 7) (v := undef) rfl (by kernel_rfl) (by kernel_rfl) (by kernel_rfl) (fun _ _ _ h => h) (Or.inr ⟨by rfl, rfl⟩) ?_
                  refine wpAny_take (i := 8) (v := .bool false) rfl (by kernel_rfl) (by kernel_rfl) (by kernel_rfl) (fun _ _ _ h => h) (Or.inl ⟨by rfl, by intro w; go_simp⟩) ?_
                  refine wpAny_ready (rs := [9]) (by kernel_rfl) (by simp) ?_
                  refine AllReady.cons rfl (fun K hK => ?_) AllReady.nil
                  go_simp
                  refine hK _ _ ?_; clear hK K
                  refine wpAny_ready (rs := [10]) (by kernel_rfl) (by simp) ?_
                  refine AllReady.cons rfl (fun K hK => ?_) AllReady.nil
                  go_simp
                  refine hK _ _ ?_; clear hK K
                  refine wpAny_done (by kernel_rfl) ?_ _
                  have zE := ((((((((((C9.carry zr q.h).set0 (.string f)).set1 (.int .i64 al)).set2 (.int .i64 si)).set3 (.bool alt)).set4 (.bool ze)).set5 (.int .i64 wi)).set6 (.int .i64 gr)).set7 (.int .i64 pr)).set8 (.string ⟨R.toArray⟩))
                  have hE := QB.out q
                  replace hE := Below.setCell (p := ⟨w.heap.size, 0, none⟩) hE (by simp) (.string f)
                  replace hE := Below.setCell (p := ⟨w.heap.size, 1, none⟩) hE (by simp) (.int .i64 al)
                  replace hE := Below.setCell (p := ⟨w.heap.size, 2, none⟩) hE (by simp) (.int .i64 si)
                  replace hE := Below.setCell (p := ⟨w.heap.size, 3, none⟩) hE (by simp) (.bool alt)
                  replace hE := Below.setCell (p := ⟨w.heap.size, 4, none⟩) hE (by simp) (.bool ze)
                  replace hE := Below.setCell (p := ⟨w.heap.size, 5, none⟩) hE (by simp) (.int .i64 wi)
                  replace hE := Below.setCell (p := ⟨w.heap.size, 6, none⟩) hE (by simp) (.int .i64 gr)
                  replace hE := Below.setCell (p := ⟨w.heap.size, 7, none⟩) hE (by simp) (.int .i64 pr)
                  replace hE := Below.setCell (p := ⟨w.heap.size, 8, none⟩) hE (by simp) (.string ⟨R.toArray⟩)
                  generalize hWE : World.setCell _ ⟨w.heap.size, 8, none⟩ (.string ⟨R.toArray⟩) = V at zE hE ⊢
                  clear hWE x0 x1 x2 x3 x4 x5 x6 x7 x8 xf xl y0 y1 y2 y3 y4 y5 y6 y7 y8 yf yl s0 s1 s2 s3 s4 s5 s6 s7 s8 q0 q1 q2 q3 q4 q5 q6 q7 q8 qf ql zs zr q KV QB hB
                  obtain ⟨e0, e1, e2, e3, e4, e5, e6, e7, e8, ef, el⟩ := zE
                  repeat (first | go_values | go_skip | go_guarded | go_step | go_upon)
                  refine bodyPost_ret (v := .tuple #[.agg #[.string f, .int .i64 al, .int .i64 si, .bool alt, .bool ze, .int .i64 wi, .int .i64 gr, .int .i64 pr, .string ⟨R.toArray⟩], .bool false]) ?_ rfl ⟨by rw [HM.out]; rfl, hE⟩
                  simp [results, Tryd.results26, go_sem, *]
                · go_simp
                  go_wp2_with (first | (go_at_call 57; (with_reducible refine Calls.mono (KV.out _) ?_); rintro r w1 ⟨rfl, hb⟩; obtain ⟨q, hq⟩ : ∃ q : Since W, w1 = q.v := ⟨⟨w1, Below.trans ((Below.refl _ _).drew) hb⟩, rfl⟩; subst hq; clear hb) | (go_at_call 57; (with_reducible refine Calls.mono (KV.out _) ?_); rintro r w1 ⟨rfl, hb⟩; obtain ⟨q, hq⟩ : ∃ q : Since W, w1 = q.v := ⟨⟨w1, Below.trans (Since.h _) (hb.mono (Since.h _).size)⟩, rfl⟩; subst hq; clear hb))
                  refine wpAny_take (i := 3) (v := .bool false) rfl (by kernel_rfl) (by kernel_rfl) (by kernel_rfl) (fun _ _ _ h => h) (Or.inl ⟨by rfl, by intro w; go_simp⟩) ?_
                  refine wpAny_take (i := 4) (v := undef) rfl (by kernel_rfl) (by kernel_rfl) (by kernel_rfl) (fun _ _ _ h => h) (Or.inr ⟨by rfl, rfl⟩) ?_
                  refine wpAny_take (i := 5) (v := undef) rfl (by kernel_rfl) (by kernel_rfl) (by kernel_rfl) (fun _ _ _ h => h) (Or.inr ⟨by rfl, rfl⟩) ?_
                  refine wpAny_take (i := 6) (v := undef) rfl (by kernel_rfl) (by kernel_rfl) (by kernel_rfl) (fun _ _ _ h => h) (Or.inr ⟨by rfl, rfl⟩) ?_
                  refine wpAny_take (i := 7) (v := undef) rfl (by kernel_rfl) (by kernel_rfl) (by kernel_rfl) (fun _ _ _ h => h) (Or.inr ⟨by rfl, rfl⟩) ?_
                  refine wpAny_take (i := 8) (v := .bool false) rfl (by kernel_rfl) (by kernel_rfl) (by kernel_rfl) (fun _ _ _ h => h) (Or.inl ⟨by rfl, by intro w; go_simp⟩) ?_
                  refine wpAny_ready (rs := [0]) (by kernel_rfl) (by simp) ?_
                  refine AllReady.cons rfl (fun K hK => ?_) AllReady.nil
                  go_simp
                  refine hK _ _ ?_; clear hK K
                  refine wpAny_ready (rs := [9]) (by kernel_rfl) (by simp) ?_
                  refine AllReady.cons rfl (fun K hK => ?_) AllReady.nil
                  go_simp
                  refine hK _ _ ?_; clear hK K
                  refine wpAny_ready (rs := [10]) (by kernel_rfl) (by simp) ?_
                  refine AllReady.cons rfl (fun K hK => ?_) AllReady.nil
                  go_simp
                  refine hK _ _ ?_; clear hK K
                  refine wpAny_done (by kernel_rfl) ?_ _
                  have zE := ((((((((((C9.carry zr q.h).set0 (.string f)).set1 (.int .i64 al)).set2 (.int .i64 si)).set3 (.bool alt)).set4 (.bool ze)).set5 (.int .i64 wi)).set6 (.int .i64 gr)).set7 (.int .i64 pr)).set8 (.string ⟨R.toArray⟩))
                  have hE := QB.out q
                  replace hE := Below.setCell (p := ⟨w.heap.size, 0, none⟩) hE (by simp) (.string f)
                  replace hE := Below.setCell (p := ⟨w.heap.size, 1, none⟩) hE (by simp) (.int .i64 al)
                  replace hE := Below.setCell (p := ⟨w.heap.size, 2, none⟩) hE (by simp) (.int .i64 si)
                  replace hE := Below.setCell (p := ⟨w.heap.size, 3, none⟩) hE (by simp) (.bool alt)
                  replace hE := Below.setCell (p := ⟨w.heap.size, 4, none⟩) hE (by simp) (.bool ze)
                  replace hE := Below.setCell (p := ⟨w.heap.size, 5, none⟩) hE (by simp) (.int .i64 wi)
                  replace hE := Below.setCell (p := ⟨w.heap.size, 6, none⟩) hE (by simp) (.int .i64 gr)
                  replace hE := Below.setCell (p := ⟨w.heap.size, 7, none⟩) hE (by simp) (.int .i64 pr)
                  replace hE := Below.setCell (p := ⟨w.heap.size, 8, none⟩) hE (by simp) (.string ⟨R.toArray⟩)
                  generalize hWE : World.setCell _ ⟨w.heap.size, 8, none⟩ (.string ⟨R.toArray⟩) = V at zE hE ⊢
                  clear hWE x0 x1 x2 x3 x4 x5 x6 x7 x8 xf xl y0 y1 y2 y3 y4 y5 y6 y7 y8 yf yl s0 s1 s2 s3 s4 s5 s6 s7 s8 q0 q1 q2 q3 q4 q5 q6 q7 q8 qf ql zs zr q KV QB hB
                  obtain ⟨e0, e1, e2, e3, e4, e5, e6, e7, e8, ef, el⟩ := zE
                  repeat (first | go_values | go_skip | go_guarded | go_step | go_upon)
                  refine bodyPost_ret (v := .tuple #[.agg #[.string f, .int .i64 al, .int .i64 si, .bool alt, .bool ze, .int .i64 wi, .int .i64 gr, .int .i64 pr, .string ⟨R.toArray⟩], .bool false]) ?_ rfl ⟨by rw [HM.out]; rfl, hE⟩
                  simp [results, Tryd.results26, go_sem, *]
            · have V := vSp_open hv
              have ef := of_list f
              have kt : ∀ W', Calls Tryd.prog 33 #[.agg #[.string f, .int .i64 al, .int .i64 si, .bool alt, .bool ze, .int .i64 wi, .int .i64 gr, .int .i64 pr, .string ⟨R.toArray⟩]] W' fun r w' => r = .returned (.string ⟨(spL f.data.toList al si alt ze wi gr pr R).toArray⟩) ∧ Below W'.heap.size W' w' := by
                intro W'
                have h := specTextS_ok f.data.toList R al si alt ze wi gr pr W' (by rw [← ef]; exact V)
                rw [← ef] at h
                exact h
              rw [hv] at kv hM
              have KV := Lib.hid kv
              clear kv hv V ef
              by_cases hE : spL f.data.toList al si alt ze wi gr pr R = l
              · rw [hE] at kt hM
                rw [show (l == l) = true by simp] at hM
                clear hE
                generalize (⟨l.toArray⟩ : ByteArray) = S at *
                have KT := Lib.hid kt
                have HM := Lib.hid hM
                clear kt hM hl
                refine wp_region_any (by kernel_rfl) ?_
                change wpAny _ _ _ _ _ _ _ (World.drew _)
                refine wpAny_ready (rs := [0, 1]) (by kernel_rfl) (by simp) ?_
                refine AllReady.cons rfl (fun K hK => ?_) (AllReady.cons rfl (fun K hK => ?_) AllReady.nil)
                · go_simp
                  refine hK _ _ ?_; clear hK K
                  refine wpAny_ready (rs := [1]) (by kernel_rfl) (by simp) ?_
                  refine AllReady.cons rfl (fun K hK => ?_) AllReady.nil
                  go_simp
                  refine hK _ _ ?_; clear hK K
                  refine wpAny_ready (rs := [2]) (by kernel_rfl) (by simp) ?_
                  refine AllReady.cons rfl (fun K hK => ?_) AllReady.nil
                  go_simp
                  go_wp2_with (first | (go_at_call 57; (with_reducible refine Calls.mono (KV.out _) ?_); rintro r w1 ⟨rfl, hb⟩; obtain ⟨q, hq⟩ : ∃ q : Since W, w1 = q.v := ⟨⟨w1, Below.trans ((Below.refl _ _).drew) hb⟩, rfl⟩; subst hq; clear hb) | (go_at_call 57; (with_reducible refine Calls.mono (KV.out _) ?_); rintro r w1 ⟨rfl, hb⟩; obtain ⟨q, hq⟩ : ∃ q : Since W, w1 = q.v := ⟨⟨w1, Below.trans (Since.h _) (hb.mono (Since.h _).size)⟩, rfl⟩; subst hq; clear hb))
                  refine wpAny_take (i := 3) (v := .bool true) rfl (by kernel_rfl) (by kernel_rfl) (by kernel_rfl) (fun _ _ _ h => h) (Or.inl ⟨by rfl, by intro w; go_simp⟩) ?_
                  refine wpAny_take (i := 6) (v := .string S) rfl (by kernel_rfl) (by kernel_rfl) (by kernel_rfl) (fun _ _ _ h => h) (Or.inl ⟨by rfl, by intro w; go_simp⟩) ?_
                  refine wpAny_ready (rs := [4]) (by kernel_rfl) (by simp) ?_
                  refine AllReady.cons rfl (fun K hK => ?_) AllReady.nil
                  go_simp
                  refine hK _ _ ?_; clear hK K
                  refine wpAny_ready (rs := [5]) (by kernel_rfl) (by simp) ?_
                  refine AllReady.cons rfl (fun K hK => ?_) AllReady.nil
                  go_simp
                  go_wp2_with (first | (go_at_call 33; (with_reducible refine Calls.mono (KT.out _) ?_); rintro r w1 ⟨rfl, hb⟩; obtain ⟨q, hq⟩ : ∃ q : Since W, w1 = q.v := ⟨⟨w1, Below.trans (Since.h _) (hb.mono (Since.h _).size)⟩, rfl⟩; subst hq; clear hb))
                  refine wpAny_take (i := 7) (v := .bool true) rfl (by kernel_rfl) (by kernel_rfl) (by kernel_rfl) (fun _ _ _ h => h) (Or.inl ⟨by rfl, by intro w; go_simp⟩) ?_
                  refine wpAny_take (i := 8) (v := .bool true) rfl (by kernel_rfl) (by kernel_rfl) (by kernel_rfl) (fun _ _ _ h => h) (Or.inl ⟨by rfl, by intro w; go_simp⟩) ?_
                  refine wpAny_ready (rs := [9]) (by kernel_rfl) (by simp) ?_
                  refine AllReady.cons rfl (fun K hK => ?_) AllReady.nil
                  go_simp
                  refine hK _ _ ?_; clear hK K
                  refine wpAny_ready (rs := [10]) (by kernel_rfl) (by simp) ?_
                  refine AllReady.cons rfl (fun K hK => ?_) AllReady.nil
                  go_simp
                  refine hK _ _ ?_; clear hK K
                  refine wpAny_done (by kernel_rfl) ?_ _
                  have zE := ((((((((((C9.carry zr q.h).set0 (.string f)).set1 (.int .i64 al)).set2 (.int .i64 si)).set3 (.bool alt)).set4 (.bool ze)).set5 (.int .i64 wi)).set6 (.int .i64 gr)).set7 (.int .i64 pr)).set8 (.string ⟨R.toArray⟩))
                  have hE := QB.out q
                  replace hE := Below.setCell (p := ⟨w.heap.size, 0, none⟩) hE (by simp) (.string f)
                  replace hE := Below.setCell (p := ⟨w.heap.size, 1, none⟩) hE (by simp) (.int .i64 al)
                  replace hE := Below.setCell (p := ⟨w.heap.size, 2, none⟩) hE (by simp) (.int .i64 si)
                  replace hE := Below.setCell (p := ⟨w.heap.size, 3, none⟩) hE (by simp) (.bool alt)
                  replace hE := Below.setCell (p := ⟨w.heap.size, 4, none⟩) hE (by simp) (.bool ze)
                  replace hE := Below.setCell (p := ⟨w.heap.size, 5, none⟩) hE (by simp) (.int .i64 wi)
                  replace hE := Below.setCell (p := ⟨w.heap.size, 6, none⟩) hE (by simp) (.int .i64 gr)
                  replace hE := Below.setCell (p := ⟨w.heap.size, 7, none⟩) hE (by simp) (.int .i64 pr)
                  replace hE := Below.setCell (p := ⟨w.heap.size, 8, none⟩) hE (by simp) (.string ⟨R.toArray⟩)
                  generalize hWE : World.setCell _ ⟨w.heap.size, 8, none⟩ (.string ⟨R.toArray⟩) = V at zE hE ⊢
                  clear hWE x0 x1 x2 x3 x4 x5 x6 x7 x8 xf xl y0 y1 y2 y3 y4 y5 y6 y7 y8 yf yl s0 s1 s2 s3 s4 s5 s6 s7 s8 q0 q1 q2 q3 q4 q5 q6 q7 q8 qf ql zs zr q KV KT QB hB
                  obtain ⟨e0, e1, e2, e3, e4, e5, e6, e7, e8, ef, el⟩ := zE
                  repeat (first | go_values | go_skip | go_guarded | go_step | go_upon)
                  refine bodyPost_ret (v := .tuple #[.agg #[.string f, .int .i64 al, .int .i64 si, .bool alt, .bool ze, .int .i64 wi, .int .i64 gr, .int .i64 pr, .string ⟨R.toArray⟩], .bool true]) ?_ rfl ⟨by rw [HM.out]; rfl, hE⟩
                  simp [results, Tryd.results26, go_sem, *]
                · go_simp
                  refine hK _ _ ?_; clear hK K
                  refine wpAny_ready (rs := [0, 2]) (by kernel_rfl) (by simp) ?_
                  refine AllReady.cons rfl (fun K hK => ?_) (AllReady.cons rfl (fun K hK => ?_) AllReady.nil)
                  · go_simp
                    refine hK _ _ ?_; clear hK K
                    refine wpAny_ready (rs := [2]) (by kernel_rfl) (by simp) ?_
                    refine AllReady.cons rfl (fun K hK => ?_) AllReady.nil
                    go_simp
                    go_wp2_with (first | (go_at_call 57; (with_reducible refine Calls.mono (KV.out _) ?_); rintro r w1 ⟨rfl, hb⟩; obtain ⟨q, hq⟩ : ∃ q : Since W, w1 = q.v := ⟨⟨w1, Below.trans ((Below.refl _ _).drew) hb⟩, rfl⟩; subst hq; clear hb) | (go_at_call 57; (with_reducible refine Calls.mono (KV.out _) ?_); rintro r w1 ⟨rfl, hb⟩; obtain ⟨q, hq⟩ : ∃ q : Since W, w1 = q.v := ⟨⟨w1, Below.trans (Since.h _) (hb.mono (Since.h _).size)⟩, rfl⟩; subst hq; clear hb))
                    refine wpAny_take (i := 3) (v := .bool true) rfl (by kernel_rfl) (by kernel_rfl) (by kernel_rfl) (fun _ _ _ h => h) (Or.inl ⟨by rfl, by intro w; go_simp⟩) ?_
                    refine wpAny_take (i := 6) (v := .string S) rfl (by kernel_rfl) (by kernel_rfl) (by kernel_rfl) (fun _ _ _ h => h) (Or.inl ⟨by rfl, by intro w; go_simp⟩) ?_
                    refine wpAny_ready (rs := [4]) (by kernel_rfl) (by simp) ?_
                    refine AllReady.cons rfl (fun K hK => ?_) AllReady.nil
                    go_simp
                    refine hK _ _ ?_; clear hK K
                    refine wpAny_ready (rs := [5]) (by kernel_rfl) (by simp) ?_
                    refine AllReady.cons rfl (fun K hK => ?_) AllReady.nil
                    go_simp
                    go_wp2_with (first | (go_at_call 33; (with_reducible refine Calls.mono (KT.out _) ?_); rintro r w1 ⟨rfl, hb⟩; obtain ⟨q, hq⟩ : ∃ q : Since W, w1 = q.v := ⟨⟨w1, Below.trans (Since.h _) (hb.mono (Since.h _).size)⟩, rfl⟩; subst hq; clear hb))
                    refine wpAny_take (i := 7) (v := .bool true) rfl (by kernel_rfl) (by kernel_rfl) (by kernel_rfl) (fun _ _ _ h => h) (Or.inl ⟨by rfl, by intro w; go_simp⟩) ?_
                    refine wpAny_take (i := 8) (v := .bool true) rfl (by kernel_rfl) (by kernel_rfl) (by kernel_rfl) (fun _ _ _ h => h) (Or.inl ⟨by rfl, by intro w; go_simp⟩) ?_
                    refine wpAny_ready (rs := [9]) (by kernel_rfl) (by simp) ?_
                    refine AllReady.cons rfl (fun K hK => ?_) AllReady.nil
                    go_simp
                    refine hK _ _ ?_; clear hK K
                    refine wpAny_ready (rs := [10]) (by kernel_rfl) (by simp) ?_
                    refine AllReady.cons rfl (fun K hK => ?_) AllReady.nil
                    go_simp
                    refine hK _ _ ?_; clear hK K
                    refine wpAny_done (by kernel_rfl) ?_ _
                    have zE := ((((((((((C9.carry zr q.h).set0 (.string f)).set1 (.int .i64 al)).set2 (.int .i64 si)).set3 (.bool alt)).set4 (.bool ze)).set5 (.int .i64 wi)).set6 (.int .i64 gr)).set7 (.int .i64 pr)).set8 (.string ⟨R.toArray⟩))
                    have hE := QB.out q
                    replace hE := Below.setCell (p := ⟨w.heap.size, 0, none⟩) hE (by simp) (.string f)
                    replace hE := Below.setCell (p := ⟨w.heap.size, 1, none⟩) hE (by simp) (.int .i64 al)
                    replace hE := Below.setCell (p := ⟨w.heap.size, 2, none⟩) hE (by simp) (.int .i64 si)
                    replace hE := Below.setCell (p := ⟨w.heap.size, 3, none⟩) hE (by simp) (.bool alt)
                    replace hE := Below.setCell (p := ⟨w.heap.size, 4, none⟩) hE (by simp) (.bool ze)
                    replace hE := Below.setCell (p := ⟨w.heap.size, 5, none⟩) hE (by simp) (.int .i64 wi)
                    replace hE := Below.setCell (p := ⟨w.heap.size, 6, none⟩) hE (by simp) (.int .i64 gr)
                    replace hE := Below.setCell (p := ⟨w.heap.size, 7, none⟩) hE (by simp) (.int .i64 pr)
                    replace hE := Below.setCell (p := ⟨w.heap.size, 8, none⟩) hE (by simp) (.string ⟨R.toArray⟩)
                    generalize hWE : World.setCell _ ⟨w.heap.size, 8, none⟩ (.string ⟨R.toArray⟩) = V at zE hE ⊢
                    clear hWE x0 x1 x2 x3 x4 x5 x6 x7 x8 xf xl y0 y1 y2 y3 y4 y5 y6 y7 y8 yf yl s0 s1 s2 s3 s4 s5 s6 s7 s8 q0 q1 q2 q3 q4 q5 q6 q7 q8 qf ql zs zr q KV KT QB hB
                    obtain ⟨e0, e1, e2, e3, e4, e5, e6, e7, e8, ef, el⟩ := zE
                    repeat (first | go_values | go_skip | go_guarded | go_step | go_upon)
                    refine bodyPost_ret (v := .tuple #[.agg #[.string f, .int .i64 al, .int .i64 si, .bool alt, .bool ze, .int .i64 wi, .int .i64 gr, .int .i64 pr, .string ⟨R.toArray⟩], .bool true]) ?_ rfl ⟨by rw [HM.out]; rfl, hE⟩
                    simp [results, Tryd.results26, go_sem, *]
                  · go_simp
                    go_wp2_with (first | (go_at_call 57; (with_reducible refine Calls.mono (KV.out _) ?_); rintro r w1 ⟨rfl, hb⟩; obtain ⟨q, hq⟩ : ∃ q : Since W, w1 = q.v := ⟨⟨w1, Below.trans ((Below.refl _ _).drew) hb⟩, rfl⟩; subst hq; clear hb) | (go_at_call 57; (with_reducible refine Calls.mono (KV.out _) ?_); rintro r w1 ⟨rfl, hb⟩; obtain ⟨q, hq⟩ : ∃ q : Since W, w1 = q.v := ⟨⟨w1, Below.trans (Since.h _) (hb.mono (Since.h _).size)⟩, rfl⟩; subst hq; clear hb))
                    refine wpAny_take (i := 3) (v := .bool true) rfl (by kernel_rfl) (by kernel_rfl) (by kernel_rfl) (fun _ _ _ h => h) (Or.inl ⟨by rfl, by intro w; go_simp⟩) ?_
                    refine wpAny_take (i := 6) (v := .string S) rfl (by kernel_rfl) (by kernel_rfl) (by kernel_rfl) (fun _ _ _ h => h) (Or.inl ⟨by rfl, by intro w; go_simp⟩) ?_
                    refine wpAny_ready (rs := [0, 4]) (by kernel_rfl) (by simp) ?_
                    refine AllReady.cons rfl (fun K hK => ?_) (AllReady.cons rfl (fun K hK => ?_) AllReady.nil)
                    · go_simp
                      refine hK _ _ ?_; clear hK K
                      refine wpAny_ready (rs := [4]) (by kernel_rfl) (by simp) ?_
                      refine AllReady.cons rfl (fun K hK => ?_) AllReady.nil
                      go_simp
                      refine hK _ _ ?_; clear hK K
                      refine wpAny_ready (rs := [5]) (by kernel_rfl) (by simp) ?_
                      refine AllReady.cons rfl (fun K hK => ?_) AllReady.nil
                      go_simp
                      go_wp2_with (first | (go_at_call 33; (with_reducible refine Calls.mono (KT.out _) ?_); rintro r w1 ⟨rfl, hb⟩; obtain ⟨q, hq⟩ : ∃ q : Since W, w1 = q.v := ⟨⟨w1, Below.trans (Since.h _) (hb.mono (Since.h _).size)⟩, rfl⟩; subst hq; clear hb))
                      refine wpAny_take (i := 7) (v := .bool true) rfl (by kernel_rfl) (by kernel_rfl) (by kernel_rfl) (fun _ _ _ h => h) (Or.inl ⟨by rfl, by intro w; go_simp⟩) ?_
                      refine wpAny_take (i := 8) (v := .bool true) rfl (by kernel_rfl) (by kernel_rfl) (by kernel_rfl) (fun _ _ _ h => h) (Or.inl ⟨by rfl, by intro w; go_simp⟩) ?_
                      refine wpAny_ready (rs := [9]) (by kernel_rfl) (by simp) ?_
                      refine AllReady.cons rfl (fun K hK => ?_) AllReady.nil
                      go_simp
                      refine hK _ _ ?_; clear hK K
                      refine wpAny_ready (rs := [10]) (by kernel_rfl) (by simp) ?_
                      refine AllReady.cons rfl (fun K hK => ?_) AllReady.nil
                      go_simp
                      refine hK _ _ ?_; clear hK K
                      refine wpAny_done (by kernel_rfl) ?_ _
                      have zE := ((((((((((C9.carry zr q.h).set0 (.string f)).set1 (.int .i64 al)).set2 (.int .i64 si)).set3 (.bool alt)).set4 (.bool ze)).set5 (.int .i64 wi)).set6 (.int .i64 gr)).set7 (.int .i64 pr)).set8 (.string ⟨R.toArray⟩))
                      have hE := QB.out q
                      replace hE := Below.setCell (p := ⟨w.heap.size, 0, none⟩) hE (by simp) (.string f)
                      replace hE := Below.setCell (p := ⟨w.heap.size, 1, none⟩) hE (by simp) (.int .i64 al)
                      replace hE := Below.setCell (p := ⟨w.heap.size, 2, none⟩) hE (by simp) (.int .i64 si)
                      replace hE := Below.setCell (p := ⟨w.heap.size, 3, none⟩) hE (by simp) (.bool alt)
                      replace hE := Below.setCell (p := ⟨w.heap.size, 4, none⟩) hE (by simp) (.bool ze)
                      replace hE := Below.setCell (p := ⟨w.heap.size, 5, none⟩) hE (by simp) (.int .i64 wi)
                      replace hE := Below.setCell (p := ⟨w.heap.size, 6, none⟩) hE (by simp) (.int .i64 gr)
                      replace hE := Below.setCell (p := ⟨w.heap.size, 7, none⟩) hE (by simp) (.int .i64 pr)
                      replace hE := Below.setCell (p := ⟨w.heap.size, 8, none⟩) hE (by simp) (.string ⟨R.toArray⟩)
                      generalize hWE : World.setCell _ ⟨w.heap.size, 8, none⟩ (.string ⟨R.toArray⟩) = V at zE hE ⊢
                      clear hWE x0 x1 x2 x3 x4 x5 x6 x7 x8 xf xl y0 y1 y2 y3 y4 y5 y6 y7 y8 yf yl s0 s1 s2 s3 s4 s5 s6 s7 s8 q0 q1 q2 q3 q4 q5 q6 q7 q8 qf ql zs zr q KV KT QB hB
                      obtain ⟨e0, e1, e2, e3, e4, e5, e6, e7, e8, ef, el⟩ := zE
                      repeat (first | go_values | go_skip | go_guarded | go_step | go_upon)
                      refine bodyPost_ret (v := .tuple #[.agg #[.string f, .int .i64 al, .int .i64 si, .bool alt, .bool ze, .int .i64 wi, .int .i64 gr, .int .i64 pr, .string ⟨R.toArray⟩], .bool true]) ?_ rfl ⟨by rw [HM.out]; rfl, hE⟩
                      simp [results, Tryd.results26, go_sem, *]
                    · go_simp
                      refine hK _ _ ?_; clear hK K
                      refine wpAny_ready (rs := [0, 5]) (by kernel_rfl) (by simp) ?_
                      refine AllReady.cons rfl (fun K hK => ?_) (AllReady.cons rfl (fun K hK => ?_) AllReady.nil)
                      · go_simp
                        refine hK _ _ ?_; clear hK K
                        refine wpAny_ready (rs := [5]) (by kernel_rfl) (by simp) ?_
                        refine AllReady.cons rfl (fun K hK => ?_) AllReady.nil
                        go_simp
                        go_wp2_with (first | (go_at_call 33; (with_reducible refine Calls.mono (KT.out _) ?_); rintro r w1 ⟨rfl, hb⟩; obtain ⟨q, hq⟩ : ∃ q : Since W, w1 = q.v := ⟨⟨w1, Below.trans (Since.h _) (hb.mono (Since.h _).size)⟩, rfl⟩; subst hq; clear hb))
                        refine wpAny_take (i := 7) (v := .bool true) rfl (by kernel_rfl) (by kernel_rfl) (by kernel_rfl) (fun _ _ _ h => h) (Or.inl ⟨by rfl, by intro w; go_simp⟩) ?_
                        refine wpAny_take (i := 8) (v := .bool true) rfl (by kernel_rfl) (by kernel_rfl) (by kernel_rfl) (fun _ _ _ h => h) (Or.inl ⟨by rfl, by intro w; go_simp⟩) ?_
                        refine wpAny_ready (rs := [9]) (by kernel_rfl) (by simp) ?_
                        refine AllReady.cons rfl (fun K hK => ?_) AllReady.nil
                        go_simp
                        refine hK _ _ ?_; clear hK K
                        refine wpAny_ready (rs := [10]) (by kernel_rfl) (by simp) ?_
                        refine AllReady.cons rfl (fun K hK => ?_) AllReady.nil
                        go_simp
                        refine hK _ _ ?_; clear hK K
                        refine wpAny_done (by kernel_rfl) ?_ _
                        have zE := ((((((((((C9.carry zr q.h).set0 (.string f)).set1 (.int .i64 al)).set2 (.int .i64 si)).set3 (.bool alt)).set4 (.bool ze)).set5 (.int .i64 wi)).set6 (.int .i64 gr)).set7 (.int .i64 pr)).set8 (.string ⟨R.toArray⟩))
                        have hE := QB.out q
                        replace hE := Below.setCell (p := ⟨w.heap.size, 0, none⟩) hE (by simp) (.string f)
                        replace hE := Below.setCell (p := ⟨w.heap.size, 1, none⟩) hE (by simp) (.int .i64 al)
                        replace hE := Below.setCell (p := ⟨w.heap.size, 2, none⟩) hE (by simp) (.int .i64 si)
                        replace hE := Below.setCell (p := ⟨w.heap.size, 3, none⟩) hE (by simp) (.bool alt)
                        replace hE := Below.setCell (p := ⟨w.heap.size, 4, none⟩) hE (by simp) (.bool ze)
                        replace hE := Below.setCell (p := ⟨w.heap.size, 5, none⟩) hE (by simp) (.int .i64 wi)
                        replace hE := Below.setCell (p := ⟨w.heap.size, 6, none⟩) hE (by simp) (.int .i64 gr)
                        replace hE := Below.setCell (p := ⟨w.heap.size, 7, none⟩) hE (by simp) (.int .i64 pr)
                        replace hE := Below.setCell (p := ⟨w.heap.size, 8, none⟩) hE (by simp) (.string ⟨R.toArray⟩)
                        generalize hWE : World.setCell _ ⟨w.heap.size, 8, none⟩ (.string ⟨R.toArray⟩) = V at zE hE ⊢
                        clear hWE x0 x1 x2 x3 x4 x5 x6 x7 x8 xf xl y0 y1 y2 y3 y4 y5 y6 y7 y8 yf yl s0 s1 s2 s3 s4 s5 s6 s7 s8 q0 q1 q2 q3 q4 q5 q6 q7 q8 qf ql zs zr q KV KT QB hB
                        obtain ⟨e0, e1, e2, e3, e4, e5, e6, e7, e8, ef, el⟩ := zE
                        repeat (first | go_values | go_skip | go_guarded | go_step | go_upon)
                        refine bodyPost_ret (v := .tuple #[.agg #[.string f, .int .i64 al, .int .i64 si, .bool alt, .bool ze, .int .i64 wi, .int .i64 gr, .int .i64 pr, .string ⟨R.toArray⟩], .bool true]) ?_ rfl ⟨by rw [HM.out]; rfl, hE⟩
                        simp [results, Tryd.results26, go_sem, *]
                      · go_simp
                        go_wp2_with (first | (go_at_call 33; (with_reducible refine Calls.mono (KT.out _) ?_); rintro r w1 ⟨rfl, hb⟩; obtain ⟨q, hq⟩ : ∃ q : Since W, w1 = q.v := ⟨⟨w1, Below.trans (Since.h _) (hb.mono (Since.h _).size)⟩, rfl⟩; subst hq; clear hb))
                        refine wpAny_take (i := 7) (v := .bool true) rfl (by kernel_rfl) (by kernel_rfl) (by kernel_rfl) (fun _ _ _ h => h) (Or.inl ⟨by rfl, by intro w; go_simp⟩) ?_
                        refine wpAny_take (i := 8) (v := .bool true) rfl (by kernel_rfl) (by kernel_rfl) (by kernel_rfl) (fun _ _ _ h => h) (Or.inl ⟨by rfl, by intro w; go_simp⟩) ?_
                        refine wpAny_ready (rs := [0]) (by kernel_rfl) (by simp) ?_
                        refine AllReady.cons rfl (fun K hK => ?_) AllReady.nil
                        go_simp
                        refine hK _ _ ?_; clear hK K
                        refine wpAny_ready (rs := [9]) (by kernel_rfl) (by simp) ?_
                        refine AllReady.cons rfl (fun K hK => ?_) AllReady.nil
                        go_simp
                        refine hK _ _ ?_; clear hK K
                        refine wpAny_ready (rs := [10]) (by kernel_rfl) (by simp) ?_
                        refine AllReady.cons rfl (fun K hK => ?_) AllReady.nil
                        go_simp
                        refine hK _ _ ?_; clear hK K
                        refine wpAny_done (by kernel_rfl) ?_ _
                        have zE := ((((((((((C9.carry zr q.h).set0 (.string f)).set1 (.int .i64 al)).set2 (.int .i64 si)).set3 (.bool alt)).set4 (.bool ze)).set5 (.int .i64 wi)).set6 (.int .i64 gr)).set7 (.int .i64 pr)).set8 (.string ⟨R.toArray⟩))
                        have hE := QB.out q
                        replace hE := Below.setCell (p := ⟨w.heap.size, 0, none⟩) hE (by simp) (.string f)
                        replace hE := Below.setCell (p := ⟨w.heap.size, 1, none⟩) hE (by simp) (.int .i64 al)
                        replace hE := Below.setCell (p := ⟨w.heap.size, 2, none⟩) hE (by simp) (.int .i64 si)
                        replace hE := Below.setCell (p := ⟨w.heap.size, 3, none⟩) hE (by simp) (.bool alt)
                        replace hE := Below.setCell (p := ⟨w.heap.size, 4, none⟩) hE (by simp) (.bool ze)
                        replace hE := Below.setCell (p := ⟨w.heap.size, 5, none⟩) hE (by simp) (.int .i64 wi)
                        replace hE := Below.setCell (p := ⟨w.heap.size, 6, none⟩) hE (by simp) (.int .i64 gr)
                        replace hE := Below.setCell (p := ⟨w.heap.size, 7, none⟩) hE (by simp) (.int .i64 pr)
                        replace hE := Below.setCell (p := ⟨w.heap.size, 8, none⟩) hE (by simp) (.string ⟨R.toArray⟩)
                        generalize hWE : World.setCell _ ⟨w.heap.size, 8, none⟩ (.string ⟨R.toArray⟩) = V at zE hE ⊢
                        clear hWE x0 x1 x2 x3 x4 x5 x6 x7 x8 xf xl y0 y1 y2 y3 y4 y5 y6 y7 y8 yf yl s0 s1 s2 s3 s4 s5 s6 s7 s8 q0 q1 q2 q3 q4 q5 q6 q7 q8 qf ql zs zr q KV KT QB hB
                        obtain ⟨e0, e1, e2, e3, e4, e5, e6, e7, e8, ef, el⟩ := zE
                        repeat (first | go_values | go_skip | go_guarded | go_step | go_upon)
                        refine bodyPost_ret (v := .tuple #[.agg #[.string f, .int .i64 al, .int .i64 si, .bool alt, .bool ze, .int .i64 wi, .int .i64 gr, .int .i64 pr, .string ⟨R.toArray⟩], .bool true]) ?_ rfl ⟨by rw [HM.out]; rfl, hE⟩
                        simp [results, Tryd.results26, go_sem, *]
              · rw [show (spL f.data.toList al si alt ze wi gr pr R == l) = false from beq_eq_false_iff_ne.2 hE] at hM
                have hE2 : ¬ (⟨(spL f.data.toList al si alt ze wi gr pr R).toArray⟩ : ByteArray) = ⟨l.toArray⟩ := fun e => hE (by have := congrArg (fun b : ByteArray => b.data.toList) e; simpa using this)
                generalize (⟨(spL f.data.toList al si alt ze wi gr pr R).toArray⟩ : ByteArray) = X at *
                generalize (⟨l.toArray⟩ : ByteArray) = S at *
                have n1 := ne_list hE2
                clear hE hE2
                have KT := Lib.hid kt
                have HM := Lib.hid hM
                clear kt hM hl
                refine wp_region_any (by kernel_rfl) ?_
                change wpAny _ _ _ _ _ _ _ (World.drew _)
                refine wpAny_ready (rs := [0, 1]) (by kernel_rfl) (by simp) ?_
                refine AllReady.cons rfl (fun K hK => ?_) (AllReady.cons rfl (fun K hK => ?_) AllReady.nil)
                · go_simp
                  refine hK _ _ ?_; clear hK K
                  refine wpAny_ready (rs := [1]) (by kernel_rfl) (by simp) ?_
                  refine AllReady.cons rfl (fun K hK => ?_) AllReady.nil
                  go_simp
                  refine hK _ _ ?_; clear hK K
                  refine wpAny_ready (rs := [2]) (by kernel_rfl) (by simp) ?_
                  refine AllReady.cons rfl (fun K hK => ?_) AllReady.nil
                  go_simp
                  go_wp2_with (first | (go_at_call 57; (with_reducible refine Calls.mono (KV.out _) ?_); rintro r w1 ⟨rfl, hb⟩; obtain ⟨q, hq⟩ : ∃ q : Since W, w1 = q.v := ⟨⟨w1, Below.trans ((Below.refl _ _).drew) hb⟩, rfl⟩; subst hq; clear hb) | (go_at_call 57; (with_reducible refine Calls.mono (KV.out _) ?_); rintro r w1 ⟨rfl, hb⟩; obtain ⟨q, hq⟩ : ∃ q : Since W, w1 = q.v := ⟨⟨w1, Below.trans (Since.h _) (hb.mono (Since.h _).size)⟩, rfl⟩; subst hq; clear hb))
                  refine wpAny_take (i := 3) (v := .bool true) rfl (by kernel_rfl) (by kernel_rfl) (by kernel_rfl) (fun _ _ _ h => h) (Or.inl ⟨by rfl, by intro w; go_simp⟩) ?_
                  refine wpAny_take (i := 6) (v := .string S) rfl (by kernel_rfl) (by kernel_rfl) (by kernel_rfl) (fun _ _ _ h => h) (Or.inl ⟨by rfl, by intro w; go_simp⟩) ?_
                  refine wpAny_ready (rs := [4]) (by kernel_rfl) (by simp) ?_
                  refine AllReady.cons rfl (fun K hK => ?_) AllReady.nil
                  go_simp
                  refine hK _ _ ?_; clear hK K
                  refine wpAny_ready (rs := [5]) (by kernel_rfl) (by simp) ?_
                  refine AllReady.cons rfl (fun K hK => ?_) AllReady.nil
                  go_simp
                  go_wp2_with (first | (go_at_call 33; (with_reducible refine Calls.mono (KT.out _) ?_); rintro r w1 ⟨rfl, hb⟩; obtain ⟨q, hq⟩ : ∃ q : Since W, w1 = q.v := ⟨⟨w1, Below.trans (Since.h _) (hb.mono (Since.h _).size)⟩, rfl⟩; subst hq; clear hb))
                  refine wpAny_take (i := 7) (v := .bool false) rfl (by kernel_rfl) (by kernel_rfl) (by kernel_rfl) (fun _ _ _ h => h) (Or.inl ⟨by rfl, by intro w; go_simp⟩) ?_
                  refine wpAny_take (i := 8) (v := .bool false) rfl (by kernel_rfl) (by kernel_rfl) (by kernel_rfl) (fun _ _ _ h => h) (Or.inl ⟨by rfl, by intro w; go_simp⟩) ?_
                  refine wpAny_ready (rs := [9]) (by kernel_rfl) (by simp) ?_
                  refine AllReady.cons rfl (fun K hK => ?_) AllReady.nil
                  go_simp
                  refine hK _ _ ?_; clear hK K
                  refine wpAny_ready (rs := [10]) (by kernel_rfl) (by simp) ?_
                  refine AllReady.cons rfl (fun K hK => ?_) AllReady.nil
                  go_simp
                  refine hK _ _ ?_; clear hK K
                  refine wpAny_done (by kernel_rfl) ?_ _
                  have zE := ((((((((((C9.carry zr q.h).set0 (.string f)).set1 (.int .i64 al)).set2 (.int .i64 si)).set3 (.bool alt)).set4 (.bool ze)).set5 (.int .i64 wi)).set6 (.int .i64 gr)).set7 (.int .i64 pr)).set8 (.string ⟨R.toArray⟩))
                  have hE := QB.out q
                  replace hE := Below.setCell (p := ⟨w.heap.size, 0, none⟩) hE (by simp) (.string f)
                  replace hE := Below.setCell (p := ⟨w.heap.size, 1, none⟩) hE (by simp) (.int .i64 al)
                  replace hE := Below.setCell (p := ⟨w.heap.size, 2, none⟩) hE (by simp) (.int .i64 si)
                  replace hE := Below.setCell (p := ⟨w.heap.size, 3, none⟩) hE (by simp) (.bool alt)
                  replace hE := Below.setCell (p := ⟨w.heap.size, 4, none⟩) hE (by simp) (.bool ze)
                  replace hE := Below.setCell (p := ⟨w.heap.size, 5, none⟩) hE (by simp) (.int .i64 wi)
                  replace hE := Below.setCell (p := ⟨w.heap.size, 6, none⟩) hE (by simp) (.int .i64 gr)
                  replace hE := Below.setCell (p := ⟨w.heap.size, 7, none⟩) hE (by simp) (.int .i64 pr)
                  replace hE := Below.setCell (p := ⟨w.heap.size, 8, none⟩) hE (by simp) (.string ⟨R.toArray⟩)
                  generalize hWE : World.setCell _ ⟨w.heap.size, 8, none⟩ (.string ⟨R.toArray⟩) = V at zE hE ⊢
                  clear hWE x0 x1 x2 x3 x4 x5 x6 x7 x8 xf xl y0 y1 y2 y3 y4 y5 y6 y7 y8 yf yl s0 s1 s2 s3 s4 s5 s6 s7 s8 q0 q1 q2 q3 q4 q5 q6 q7 q8 qf ql zs zr q KV KT QB hB
                  obtain ⟨e0, e1, e2, e3, e4, e5, e6, e7, e8, ef, el⟩ := zE
                  repeat (first | go_values | go_skip | go_guarded | go_step | go_upon)
                  refine bodyPost_ret (v := .tuple #[.agg #[.string f, .int .i64 al, .int .i64 si, .bool alt, .bool ze, .int .i64 wi, .int .i64 gr, .int .i64 pr, .string ⟨R.toArray⟩], .bool false]) ?_ rfl ⟨by rw [HM.out]; rfl, hE⟩
                  simp [results, Tryd.results26, go_sem, *]
                · go_simp
                  refine hK _ _ ?_; clear hK K
                  refine wpAny_ready (rs := [0, 2]) (by kernel_rfl) (by simp) ?_
                  refine AllReady.cons rfl (fun K hK => ?_) (AllReady.cons rfl (fun K hK => ?_) AllReady.nil)
                  · go_simp
                    refine hK _ _ ?_; clear hK K
                    refine wpAny_ready (rs := [2]) (by kernel_rfl) (by simp) ?_
                    refine AllReady.cons rfl (fun K hK => ?_) AllReady.nil
                    go_simp
                    go_wp2_with (first | (go_at_call 57; (with_reducible refine Calls.mono (KV.out _) ?_); rintro r w1 ⟨rfl, hb⟩; obtain ⟨q, hq⟩ : ∃ q : Since W, w1 = q.v := ⟨⟨w1, Below.trans ((Below.refl _ _).drew) hb⟩, rfl⟩; subst hq; clear hb) | (go_at_call 57; (with_reducible refine Calls.mono (KV.out _) ?_); rintro r w1 ⟨rfl, hb⟩; obtain ⟨q, hq⟩ : ∃ q : Since W, w1 = q.v := ⟨⟨w1, Below.trans (Since.h _) (hb.mono (Since.h _).size)⟩, rfl⟩; subst hq; clear hb))
                    refine wpAny_take (i := 3) (v := .bool true) rfl (by kernel_rfl) (by kernel_rfl) (by kernel_rfl) (fun _ _ _ h => h) (Or.inl ⟨by rfl, by intro w; go_simp⟩) ?_
                    refine wpAny_take (i := 6) (v := .string S) rfl (by kernel_rfl) (by kernel_rfl) (by kernel_rfl) (fun _ _ _ h => h) (Or.inl ⟨by rfl, by intro w; go_simp⟩) ?_
                    refine wpAny_ready (rs := [4]) (by kernel_rfl) (by simp) ?_
                    refine AllReady.cons rfl (fun K hK => ?_) AllReady.nil
                    go_simp
                    refine hK _ _ ?_; clear hK K
                    refine wpAny_ready (rs := [5]) (by kernel_rfl) (by simp) ?_
                    refine AllReady.cons rfl (fun K hK => ?_) AllReady.nil
                    go_simp
                    go_wp2_with (first | (go_at_call 33; (with_reducible refine Calls.mono (KT.out _) ?_); rintro r w1 ⟨rfl, hb⟩; obtain ⟨q, hq⟩ : ∃ q : Since W, w1 = q.v := ⟨⟨w1, Below.trans (Since.h _) (hb.mono (Since.h _).size)⟩, rfl⟩; subst hq; clear hb))
                    refine wpAny_take (i := 7) (v := .bool false) rfl (by kernel_rfl) (by kernel_rfl) (by kernel_rfl) (fun _ _ _ h => h) (Or.inl ⟨by rfl, by intro w; go_simp⟩) ?_
                    refine wpAny_take (i := 8) (v := .bool false) rfl (by kernel_rfl) (by kernel_rfl) (by kernel_rfl) (fun _ _ _ h => h) (Or.inl ⟨by rfl, by intro w; go_simp⟩) ?_
                    refine wpAny_ready (rs := [9]) (by kernel_rfl) (by simp) ?_
                    refine AllReady.cons rfl (fun K hK => ?_) AllReady.nil
                    go_simp
                    refine hK _ _ ?_; clear hK K
                    refine wpAny_ready (rs := [10]) (by kernel_rfl) (by simp) ?_
                    refine AllReady.cons rfl (fun K hK => ?_) AllReady.nil
                    go_simp
                    refine hK _ _ ?_; clear hK K
                    refine wpAny_done (by kernel_rfl) ?_ _
                    have zE := ((((((((((C9.carry zr q.h).set0 (.string f)).set1 (.int .i64 al)).set2 (.int .i64 si)).set3 (.bool alt)).set4 (.bool ze)).set5 (.int .i64 wi)).set6 (.int .i64 gr)).set7 (.int .i64 pr)).set8 (.string ⟨R.toArray⟩))
                    have hE := QB.out q
                    replace hE := Below.setCell (p := ⟨w.heap.size, 0, none⟩) hE (by simp) (.string f)
                    replace hE := Below.setCell (p := ⟨w.heap.size, 1, none⟩) hE (by simp) (.int .i64 al)
                    replace hE := Below.setCell (p := ⟨w.heap.size, 2, none⟩) hE (by simp) (.int .i64 si)
                    replace hE := Below.setCell (p := ⟨w.heap.size, 3, none⟩) hE (by simp) (.bool alt)
                    replace hE := Below.setCell (p := ⟨w.heap.size, 4, none⟩) hE (by simp) (.bool ze)
                    replace hE := Below.setCell (p := ⟨w.heap.size, 5, none⟩) hE (by simp) (.int .i64 wi)
                    replace hE := Below.setCell (p := ⟨w.heap.size, 6, none⟩) hE (by simp) (.int .i64 gr)
                    replace hE := Below.setCell (p := ⟨w.heap.size, 7, none⟩) hE (by simp) (.int .i64 pr)
                    replace hE := Below.setCell (p := ⟨w.heap.size, 8, none⟩) hE (by simp) (.string ⟨R.toArray⟩)
                    generalize hWE : World.setCell _ ⟨w.heap.size, 8, none⟩ (.string ⟨R.toArray⟩) = V at zE hE ⊢
                    clear hWE x0 x1 x2 x3 x4 x5 x6 x7 x8 xf xl y0 y1 y2 y3 y4 y5 y6 y7 y8 yf yl s0 s1 s2 s3 s4 s5 s6 s7 s8 q0 q1 q2 q3 q4 q5 q6 q7 q8 qf ql zs zr q KV KT QB hB
                    obtain ⟨e0, e1, e2, e3, e4, e5, e6, e7, e8, ef, el⟩ := zE
                    repeat (first | go_values | go_skip | go_guarded | go_step | go_upon)
                    refine bodyPost_ret (v := .tuple #[.agg #[.string f, .int .i64 al, .int .i64 si, .bool alt, .bool ze, .int .i64 wi, .int .i64 gr, .int .i64 pr, .string ⟨R.toArray⟩], .bool false]) ?_ rfl ⟨by rw [HM.out]; rfl, hE⟩
                    simp [results, Tryd.results26, go_sem, *]
                  · go_simp
                    go_wp2_with (first | (go_at_call 57; (with_reducible refine Calls.mono (KV.out _) ?_); rintro r w1 ⟨rfl, hb⟩; obtain ⟨q, hq⟩ : ∃ q : Since W, w1 = q.v := ⟨⟨w1, Below.trans ((Below.refl _ _).drew) hb⟩, rfl⟩; subst hq; clear hb) | (go_at_call 57; (with_reducible refine Calls.mono (KV.out _) ?_); rintro r w1 ⟨rfl, hb⟩; obtain ⟨q, hq⟩ : ∃ q : Since W, w1 = q.v := ⟨⟨w1, Below.trans (Since.h _) (hb.mono (Since.h _).size)⟩, rfl⟩; subst hq; clear hb))
                    refine wpAny_take (i := 3) (v := .bool true) rfl (by kernel_rfl) (by kernel_rfl) (by kernel_rfl) (fun _ _ _ h => h) (Or.inl ⟨by rfl, by intro w; go_simp⟩) ?_
                    refine wpAny_take (i := 6) (v := .string S) rfl (by kernel_rfl) (by kernel_rfl) (by kernel_rfl) (fun _ _ _ h => h) (Or.inl ⟨by rfl, by intro w; go_simp⟩) ?_
                    refine wpAny_ready (rs := [0, 4]) (by kernel_rfl) (by simp) ?_
                    refine AllReady.cons rfl (fun K hK => ?_) (AllReady.cons rfl (fun K hK => ?_) AllReady.nil)
                    · go_simp
                      refine hK _ _ ?_; clear hK K
                      refine wpAny_ready (rs := [4]) (by kernel_rfl) (by simp) ?_
                      refine AllReady.cons rfl (fun K hK => ?_) AllReady.nil
                      go_simp
                      refine hK _ _ ?_; clear hK K
                      refine wpAny_ready (rs := [5]) (by kernel_rfl) (by simp) ?_
                      refine AllReady.cons rfl (fun K hK => ?_) AllReady.nil
                      go_simp
                      go_wp2_with (first | (go_at_call 33; (with_reducible refine Calls.mono (KT.out _) ?_); rintro r w1 ⟨rfl, hb⟩; obtain ⟨q, hq⟩ : ∃ q : Since W, w1 = q.v := ⟨⟨w1, Below.trans (Since.h _) (hb.mono (Since.h _).size)⟩, rfl⟩; subst hq; clear hb))
                      refine wpAny_take (i := 7) (v := .bool false) rfl (by kernel_rfl) (by kernel_rfl) (by kernel_rfl) (fun _ _ _ h => h) (Or.inl ⟨by rfl, by intro w; go_simp⟩) ?_
                      refine wpAny_take (i := 8) (v := .bool false) rfl (by kernel_rfl) (by kernel_rfl) (by kernel_rfl) (fun _ _ _ h => h) (Or.inl ⟨by rfl, by intro w; go_simp⟩) ?_
                      refine wpAny_ready (rs := [9]) (by kernel_rfl) (by simp) ?_
                      refine AllReady.cons rfl (fun K hK => ?_) AllReady.nil
                      go_simp
                      refine hK _ _ ?_; clear hK K
                      refine wpAny_ready (rs := [10]) (by kernel_rfl) (by simp) ?_
                      refine AllReady.cons rfl (fun K hK => ?_) AllReady.nil
                      go_simp
                      refine hK _ _ ?_; clear hK K
                      refine wpAny_done (by kernel_rfl) ?_ _
                      have zE := ((((((((((C9.carry zr q.h).set0 (.string f)).set1 (.int .i64 al)).set2 (.int .i64 si)).set3 (.bool alt)).set4 (.bool ze)).set5 (.int .i64 wi)).set6 (.int .i64 gr)).set7 (.int .i64 pr)).set8 (.string ⟨R.toArray⟩))
                      have hE := QB.out q
                      replace hE := Below.setCell (p := ⟨w.heap.size, 0, none⟩) hE (by simp) (.string f)
                      replace hE := Below.setCell (p := ⟨w.heap.size, 1, none⟩) hE (by simp) (.int .i64 al)
                      replace hE := Below.setCell (p := ⟨w.heap.size, 2, none⟩) hE (by simp) (.int .i64 si)
                      replace hE := Below.setCell (p := ⟨w.heap.size, 3, none⟩) hE (by simp) (.bool alt)
                      replace hE := Below.setCell (p := ⟨w.heap.size, 4, none⟩) hE (by simp) (.bool ze)
                      replace hE := Below.setCell (p := ⟨w.heap.size, 5, none⟩) hE (by simp) (.int .i64 wi)
                      replace hE := Below.setCell (p := ⟨w.heap.size, 6, none⟩) hE (by simp) (.int .i64 gr)
                      replace hE := Below.setCell (p := ⟨w.heap.size, 7, none⟩) hE (by simp) (.int .i64 pr)
                      replace hE := Below.setCell (p := ⟨w.heap.size, 8, none⟩) hE (by simp) (.string ⟨R.toArray⟩)
                      generalize hWE : World.setCell _ ⟨w.heap.size, 8, none⟩ (.string ⟨R.toArray⟩) = V at zE hE ⊢
                      clear hWE x0 x1 x2 x3 x4 x5 x6 x7 x8 xf xl y0 y1 y2 y3 y4 y5 y6 y7 y8 yf yl s0 s1 s2 s3 s4 s5 s6 s7 s8 q0 q1 q2 q3 q4 q5 q6 q7 q8 qf ql zs zr q KV KT QB hB
                      obtain ⟨e0, e1, e2, e3, e4, e5, e6, e7, e8, ef, el⟩ := zE
                      repeat (first | go_values | go_skip | go_guarded | go_step | go_upon)
                      refine bodyPost_ret (v := .tuple #[.agg #[.string f, .int .i64 al, .int .i64 si, .bool alt, .bool ze, .int .i64 wi, .int .i64 gr, .int .i64 pr, .string ⟨R.toArray⟩], .bool false]) ?_ rfl ⟨by rw [HM.out]; rfl, hE⟩
                      simp [results, Tryd.results26, go_sem, *]
                    · go_simp
                      refine hK _ _ ?_; clear hK K
                      refine wpAny_ready (rs := [0, 5]) (by kernel_rfl) (by simp) ?_
                      refine AllReady.cons rfl (fun K hK => ?_) (AllReady.cons rfl (fun K hK => ?_) AllReady.nil)
                      · go_simp
                        refine hK _ _ ?_; clear hK K
                        refine wpAny_ready (rs := [5]) (by kernel_rfl) (by simp) ?_
                        refine AllReady.cons rfl (fun K hK => ?_) AllReady.nil
                        go_simp
                        go_wp2_with (first | (go_at_call 33; (with_reducible refine Calls.mono (KT.out _) ?_); rintro r w1 ⟨rfl, hb⟩; obtain ⟨q, hq⟩ : ∃ q : Since W, w1 = q.v := ⟨⟨w1, Below.trans (Since.h _) (hb.mono (Since.h _).size)⟩, rfl⟩; subst hq; clear hb))
                        refine wpAny_take (i := 7) (v := .bool false) rfl (by kernel_rfl) (by kernel_rfl) (by kernel_rfl) (fun _ _ _ h => h) (Or.inl ⟨by rfl, by intro w; go_simp⟩) ?_
                        refine wpAny_take (i := 8) (v := .bool false) rfl (by kernel_rfl) (by kernel_rfl) (by kernel_rfl) (fun _ _ _ h => h) (Or.inl ⟨by rfl, by intro w; go_simp⟩) ?_
                        refine wpAny_ready (rs := [9]) (by kernel_rfl) (by simp) ?_
                        refine AllReady.cons rfl (fun K hK => ?_) AllReady.nil
                        go_simp
                        refine hK _ _ ?_; clear hK K
                        refine wpAny_ready (rs := [10]) (by kernel_rfl) (by simp) ?_
                        refine AllReady.cons rfl (fun K hK => ?_) AllReady.nil
                        go_simp
                        refine hK _ _ ?_; clear hK K
                        refine wpAny_done (by kernel_rfl) ?_ _
                        have zE := ((((((((((C9.carry zr q.h).set0 (.string f)).set1 (.int .i64 al)).set2 (.int .i64 si)).set3 (.bool alt)).set4 (.bool ze)).set5 (.int .i64 wi)).set6 (.int .i64 gr)).set7 (.int .i64 pr)).set8 (.string ⟨R.toArray⟩))
                        have hE := QB.out q
                        replace hE := Below.setCell (p := ⟨w.heap.size, 0, none⟩) hE (by simp) (.string f)
                        replace hE := Below.setCell (p := ⟨w.heap.size, 1, none⟩) hE (by simp) (.int .i64 al)
                        replace hE := Below.setCell (p := ⟨w.heap.size, 2, none⟩) hE (by simp) (.int .i64 si)
                        replace hE := Below.setCell (p := ⟨w.heap.size, 3, none⟩) hE (by simp) (.bool alt)
                        replace hE := Below.setCell (p := ⟨w.heap.size, 4, none⟩) hE (by simp) (.bool ze)
                        replace hE := Below.setCell (p := ⟨w.heap.size, 5, none⟩) hE (by simp) (.int .i64 wi)
                        replace hE := Below.setCell (p := ⟨w.heap.size, 6, none⟩) hE (by simp) (.int .i64 gr)
                        replace hE := Below.setCell (p := ⟨w.heap.size, 7, none⟩) hE (by simp) (.int .i64 pr)
                        replace hE := Below.setCell (p := ⟨w.heap.size, 8, none⟩) hE (by simp) (.string ⟨R.toArray⟩)
                        generalize hWE : World.setCell _ ⟨w.heap.size, 8, none⟩ (.string ⟨R.toArray⟩) = V at zE hE ⊢
                        clear hWE x0 x1 x2 x3 x4 x5 x6 x7 x8 xf xl y0 y1 y2 y3 y4 y5 y6 y7 y8 yf yl s0 s1 s2 s3 s4 s5 s6 s7 s8 q0 q1 q2 q3 q4 q5 q6 q7 q8 qf ql zs zr q KV KT QB hB
                        obtain ⟨e0, e1, e2, e3, e4, e5, e6, e7, e8, ef, el⟩ := zE
                        repeat (first | go_values | go_skip | go_guarded | go_step | go_upon)
                        refine bodyPost_ret (v := .tuple #[.agg #[.string f, .int .i64 al, .int .i64 si, .bool alt, .bool ze, .int .i64 wi, .int .i64 gr, .int .i64 pr, .string ⟨R.toArray⟩], .bool false]) ?_ rfl ⟨by rw [HM.out]; rfl, hE⟩
                        simp [results, Tryd.results26, go_sem, *]
                      · go_simp
                        go_wp2_with (first | (go_at_call 33; (with_reducible refine Calls.mono (KT.out _) ?_); rintro r w1 ⟨rfl, hb⟩; obtain ⟨q, hq⟩ : ∃ q : Since W, w1 = q.v := ⟨⟨w1, Below.trans (Since.h _) (hb.mono (Since.h _).size)⟩, rfl⟩; subst hq; clear hb))
                        refine wpAny_take (i := 7) (v := .bool false) rfl (by kernel_rfl) (by kernel_rfl) (by kernel_rfl) (fun _ _ _ h => h) (Or.inl ⟨by rfl, by intro w; go_simp⟩) ?_
                        refine wpAny_take (i := 8) (v := .bool false) rfl (by kernel_rfl) (by kernel_rfl) (by kernel_rfl) (fun _ _ _ h => h) (Or.inl ⟨by rfl, by intro w; go_simp⟩) ?_
                        refine wpAny_ready (rs := [0]) (by kernel_rfl) (by simp) ?_
                        refine AllReady.cons rfl (fun K hK => ?_) AllReady.nil
                        go_simp
                        refine hK _ _ ?_; clear hK K
                        refine wpAny_ready (rs := [9]) (by kernel_rfl) (by simp) ?_
                        refine AllReady.cons rfl (fun K hK => ?_) AllReady.nil
                        go_simp
                        refine hK _ _ ?_; clear hK K
                        refine wpAny_ready (rs := [10]) (by kernel_rfl) (by simp) ?_
                        refine AllReady.cons rfl (fun K hK => ?_) AllReady.nil
                        go_simp
                        refine hK _ _ ?_; clear hK K
                        refine wpAny_done (by kernel_rfl) ?_ _
                        have zE := ((((((((((C9.carry zr q.h).set0 (.string f)).set1 (.int .i64 al)).set2 (.int .i64 si)).set3 (.bool alt)).set4 (.bool ze)).set5 (.int .i64 wi)).set6 (.int .i64 gr)).set7 (.int .i64 pr)).set8 (.string ⟨R.toArray⟩))
                        have hE := QB.out q
                        replace hE := Below.setCell (p := ⟨w.heap.size, 0, none⟩) hE (by simp) (.string f)
                        replace hE := Below.setCell (p := ⟨w.heap.size, 1, none⟩) hE (by simp) (.int .i64 al)
                        replace hE := Below.setCell (p := ⟨w.heap.size, 2, none⟩) hE (by simp) (.int .i64 si)
                        replace hE := Below.setCell (p := ⟨w.heap.size, 3, none⟩) hE (by simp) (.bool alt)
                        replace hE := Below.setCell (p := ⟨w.heap.size, 4, none⟩) hE (by simp) (.bool ze)
                        replace hE := Below.setCell (p := ⟨w.heap.size, 5, none⟩) hE (by simp) (.int .i64 wi)
                        replace hE := Below.setCell (p := ⟨w.heap.size, 6, none⟩) hE (by simp) (.int .i64 gr)
                        replace hE := Below.setCell (p := ⟨w.heap.size, 7, none⟩) hE (by simp) (.int .i64 pr)
                        replace hE := Below.setCell (p := ⟨w.heap.size, 8, none⟩) hE (by simp) (.string ⟨R.toArray⟩)
                        generalize hWE : World.setCell _ ⟨w.heap.size, 8, none⟩ (.string ⟨R.toArray⟩) = V at zE hE ⊢
                        clear hWE x0 x1 x2 x3 x4 x5 x6 x7 x8 xf xl y0 y1 y2 y3 y4 y5 y6 y7 y8 yf yl s0 s1 s2 s3 s4 s5 s6 s7 s8 q0 q1 q2 q3 q4 q5 q6 q7 q8 qf ql zs zr q KV KT QB hB
                        obtain ⟨e0, e1, e2, e3, e4, e5, e6, e7, e8, ef, el⟩ := zE
                        repeat (first | go_values | go_skip | go_guarded | go_step | go_upon)
                        refine bodyPost_ret (v := .tuple #[.agg #[.string f, .int .i64 al, .int .i64 si, .bool alt, .bool ze, .int .i64 wi, .int .i64 gr, .int .i64 pr, .string ⟨R.toArray⟩], .bool false]) ?_ rfl ⟨by rw [HM.out]; rfl, hE⟩
                        simp [results, Tryd.results26, go_sem, *]
end Go.Proofs.YtbkdjldimmhbjaaDoor
