import Derived.Test.YtbkdjldimmhbjaaDoorPS7
import Derived.Test.YtbkdjldimmhbjaaDoorPS8
namespace Go.Proofs.YtbkdjldimmhbjaaDoor
open Go Go.RowKit
theorem tkF_print {f : ByteArray} {al si : Int} {wi gr pr : Int} {t : ByteArray} (alt ze : Bool) (V : VS f al si wi gr pr t) :
    tkF Lib.indexByte (spL f.data.toList al si alt ze wi gr pr t.data.toList) = (f.data.toList.head?, t2 al si alt ze wi gr pr t.data.toList) := by
  have H := tls alt ze V
  rw [spL_t2]
  have ha3 := H.a3
  rcases okFill_cases V.fill with rfl | ⟨b, rfl⟩
  · show tkF Lib.indexByte (t2 al si alt ze wi gr pr t.data.toList) = (none, _)
    have key : ∀ c m r, t2 al si alt ze wi gr pr t.data.toList = c :: m :: r → Lib.indexByte al4 m < 0 ∧ m.toNat < 128 := by
      intro c m r h
      have hm : m ∈ t3 si alt ze wi gr pr t.data.toList := by
        unfold t2 at h
        have hl := mk_len al4 al
        revert h hl
        generalize mk al4 al = M
        intro h hl
        match M, hl with
        | [], _ => rw [List.nil_append] at h; rw [h]; simp
        | [x], _ => rw [List.cons_append, List.nil_append] at h; rw [(List.cons.inj h).2]; simp
      have := List.all_eq_true.1 ha3 m hm
      simpa using this
    generalize t2 al si alt ze wi gr pr t.data.toList = L at key ⊢
    match L, key with
    | [], _ => rfl
    | [c], _ => rfl
    | c :: m :: r, key =>
      obtain ⟨k1, k2⟩ := key c m r rfl
      show (if 0 ≤ Lib.indexByte al4 m then _ else _) = _
      rw [if_neg (by omega)]
  · have hal : ¬ al = 0 := by
      intro h0
      have h1 := V.fill
      subst h0
      revert h1
      show (!((0 : Int) == 0) && okByte b && !(b == 123) && !(b == 125)) = true → False
      simp
    have := V.al0; have := V.al4
    have hk : al = 1 ∨ al = 2 ∨ al = 3 ∨ al = 4 := by omega
    unfold t2
    rcases hk with rfl | rfl | rfl | rfl
    · show (if 0 ≤ Lib.indexByte al4 60 then (some b, 60 :: t3 si alt ze wi gr pr t.data.toList) else (none, b :: 60 :: t3 si alt ze wi gr pr t.data.toList)) = _
      rw [if_pos (by decide)]
      rfl
    · show (if 0 ≤ Lib.indexByte al4 62 then (some b, 62 :: t3 si alt ze wi gr pr t.data.toList) else (none, b :: 62 :: t3 si alt ze wi gr pr t.data.toList)) = _
      rw [if_pos (by decide)]
      rfl
    · show (if 0 ≤ Lib.indexByte al4 94 then (some b, 94 :: t3 si alt ze wi gr pr t.data.toList) else (none, b :: 94 :: t3 si alt ze wi gr pr t.data.toList)) = _
      rw [if_pos (by decide)]
      rfl
    · show (if 0 ≤ Lib.indexByte al4 61 then (some b, 61 :: t3 si alt ze wi gr pr t.data.toList) else (none, b :: 61 :: t3 si alt ze wi gr pr t.data.toList)) = _
      rw [if_pos (by decide)]
      rfl
theorem noD {l : List UInt8} (h : hdIn S7 l = true) (n : Int) : runN l n = (n, l) := by
  cases l with
  | nil => rfl
  | cons b r =>
    have h2 : isD b = false := by
      have h3 := List.all_eq_true.1 (show (S7.all fun b => !isD b) = true by decide +kernel) b (by simpa [hdIn] using h)
      simpa using h3
    unfold runN
    rw [h2]
    rfl
theorem mW_cons (b : UInt8) (r : List UInt8) : mW (b :: r) = if b = 48 then (0, b :: r) else (max (tkN (b :: r)).1 0, (tkN (b :: r)).2) := rfl
theorem tkN_cons (b : UInt8) (r : List UInt8) : tkN (b :: r) = if isD b = true then runN (b :: r) 0 else (-1, b :: r) := rfl
theorem tkN_none {l : List UInt8} (h : hdIn S7 l = true) : tkN l = (-1, l) := by
  cases l with
  | nil => rfl
  | cons b r =>
    have h2 : isD b = false := by
      have h3 := List.all_eq_true.1 (show (S7.all fun b => !isD b) = true by decide +kernel) b (by simpa [hdIn] using h)
      simpa using h3
    rw [tkN_cons, h2]
    rfl
theorem mW_dec {k : Int} (h0 : 0 ≤ k) (h1 : k ≤ 30) {l : List UInt8} (h : hdIn S7 l = true) : mW ((if 0 < k then dec2 k.toNat else []) ++ l) = (k, l) := by
  have hk : k = 0 ∨ k = 1 ∨ k = 2 ∨ k = 3 ∨ k = 4 ∨ k = 5 ∨ k = 6 ∨ k = 7 ∨ k = 8 ∨ k = 9 ∨ k = 10 ∨ k = 11 ∨ k = 12 ∨ k = 13 ∨ k = 14 ∨ k = 15 ∨ k = 16 ∨ k = 17 ∨ k = 18 ∨ k = 19 ∨ k = 20 ∨ k = 21 ∨ k = 22 ∨ k = 23 ∨ k = 24 ∨ k = 25 ∨ k = 26 ∨ k = 27 ∨ k = 28 ∨ k = 29 ∨ k = 30 := by omega
  rcases hk with rfl | rfl | rfl | rfl | rfl | rfl | rfl | rfl | rfl | rfl | rfl | rfl | rfl | rfl | rfl | rfl | rfl | rfl | rfl | rfl | rfl | rfl | rfl | rfl | rfl | rfl | rfl | rfl | rfl | rfl | rfl
  · show mW l = _
    cases l with
    | nil => rfl
    | cons b r =>
      have h3 := List.all_eq_true.1 (show (S7.all fun b => !(b == 48)) = true by decide +kernel) b (by simpa [hdIn] using h)
      rw [mW_cons, if_neg (by simpa using h3), tkN_none h]
      rfl
  · show mW (49 :: l) = _
    have e1 : tkN (49 :: l) = runN l 1 := rfl
    rw [noD h] at e1
    rw [mW_cons, if_neg (by decide), e1]
    rfl
  · show mW (50 :: l) = _
    have e1 : tkN (50 :: l) = runN l 2 := rfl
    rw [noD h] at e1
    rw [mW_cons, if_neg (by decide), e1]
    rfl
  · show mW (51 :: l) = _
    have e1 : tkN (51 :: l) = runN l 3 := rfl
    rw [noD h] at e1
    rw [mW_cons, if_neg (by decide), e1]
    rfl
  · show mW (52 :: l) = _
    have e1 : tkN (52 :: l) = runN l 4 := rfl
    rw [noD h] at e1
    rw [mW_cons, if_neg (by decide), e1]
    rfl
  · show mW (53 :: l) = _
    have e1 : tkN (53 :: l) = runN l 5 := rfl
    rw [noD h] at e1
    rw [mW_cons, if_neg (by decide), e1]
    rfl
  · show mW (54 :: l) = _
    have e1 : tkN (54 :: l) = runN l 6 := rfl
    rw [noD h] at e1
    rw [mW_cons, if_neg (by decide), e1]
    rfl
  · show mW (55 :: l) = _
    have e1 : tkN (55 :: l) = runN l 7 := rfl
    rw [noD h] at e1
    rw [mW_cons, if_neg (by decide), e1]
    rfl
  · show mW (56 :: l) = _
    have e1 : tkN (56 :: l) = runN l 8 := rfl
    rw [noD h] at e1
    rw [mW_cons, if_neg (by decide), e1]
    rfl
  · show mW (57 :: l) = _
    have e1 : tkN (57 :: l) = runN l 9 := rfl
    rw [noD h] at e1
    rw [mW_cons, if_neg (by decide), e1]
    rfl
  · show mW (49 :: 48 :: l) = _
    have e1 : tkN (49 :: 48 :: l) = runN l 10 := rfl
    rw [noD h] at e1
    rw [mW_cons, if_neg (by decide), e1]
    rfl
  · show mW (49 :: 49 :: l) = _
    have e1 : tkN (49 :: 49 :: l) = runN l 11 := rfl
    rw [noD h] at e1
    rw [mW_cons, if_neg (by decide), e1]
    rfl
  · show mW (49 :: 50 :: l) = _
    have e1 : tkN (49 :: 50 :: l) = runN l 12 := rfl
    rw [noD h] at e1
    rw [mW_cons, if_neg (by decide), e1]
    rfl
  · show mW (49 :: 51 :: l) = _
    have e1 : tkN (49 :: 51 :: l) = runN l 13 := rfl
    rw [noD h] at e1
    rw [mW_cons, if_neg (by decide), e1]
    rfl
  · show mW (49 :: 52 :: l) = _
    have e1 : tkN (49 :: 52 :: l) = runN l 14 := rfl
    rw [noD h] at e1
    rw [mW_cons, if_neg (by decide), e1]
    rfl
  · show mW (49 :: 53 :: l) = _
    have e1 : tkN (49 :: 53 :: l) = runN l 15 := rfl
    rw [noD h] at e1
    rw [mW_cons, if_neg (by decide), e1]
    rfl
  · show mW (49 :: 54 :: l) = _
    have e1 : tkN (49 :: 54 :: l) = runN l 16 := rfl
    rw [noD h] at e1
    rw [mW_cons, if_neg (by decide), e1]
    rfl
  · show mW (49 :: 55 :: l) = _
    have e1 : tkN (49 :: 55 :: l) = runN l 17 := rfl
    rw [noD h] at e1
    rw [mW_cons, if_neg (by decide), e1]
    rfl
  · show mW (49 :: 56 :: l) = _
    have e1 : tkN (49 :: 56 :: l) = runN l 18 := rfl
    rw [noD h] at e1
    rw [mW_cons, if_neg (by decide), e1]
    rfl
  · show mW (49 :: 57 :: l) = _
    have e1 : tkN (49 :: 57 :: l) = runN l 19 := rfl
    rw [noD h] at e1
    rw [mW_cons, if_neg (by decide), e1]
    rfl
  · show mW (50 :: 48 :: l) = _
    have e1 : tkN (50 :: 48 :: l) = runN l 20 := rfl
    rw [noD h] at e1
    rw [mW_cons, if_neg (by decide), e1]
    rfl
  · show mW (50 :: 49 :: l) = _
    have e1 : tkN (50 :: 49 :: l) = runN l 21 := rfl
    rw [noD h] at e1
    rw [mW_cons, if_neg (by decide), e1]
    rfl
  · show mW (50 :: 50 :: l) = _
    have e1 : tkN (50 :: 50 :: l) = runN l 22 := rfl
    rw [noD h] at e1
    rw [mW_cons, if_neg (by decide), e1]
    rfl
  · show mW (50 :: 51 :: l) = _
    have e1 : tkN (50 :: 51 :: l) = runN l 23 := rfl
    rw [noD h] at e1
    rw [mW_cons, if_neg (by decide), e1]
    rfl
  · show mW (50 :: 52 :: l) = _
    have e1 : tkN (50 :: 52 :: l) = runN l 24 := rfl
    rw [noD h] at e1
    rw [mW_cons, if_neg (by decide), e1]
    rfl
  · show mW (50 :: 53 :: l) = _
    have e1 : tkN (50 :: 53 :: l) = runN l 25 := rfl
    rw [noD h] at e1
    rw [mW_cons, if_neg (by decide), e1]
    rfl
  · show mW (50 :: 54 :: l) = _
    have e1 : tkN (50 :: 54 :: l) = runN l 26 := rfl
    rw [noD h] at e1
    rw [mW_cons, if_neg (by decide), e1]
    rfl
  · show mW (50 :: 55 :: l) = _
    have e1 : tkN (50 :: 55 :: l) = runN l 27 := rfl
    rw [noD h] at e1
    rw [mW_cons, if_neg (by decide), e1]
    rfl
  · show mW (50 :: 56 :: l) = _
    have e1 : tkN (50 :: 56 :: l) = runN l 28 := rfl
    rw [noD h] at e1
    rw [mW_cons, if_neg (by decide), e1]
    rfl
  · show mW (50 :: 57 :: l) = _
    have e1 : tkN (50 :: 57 :: l) = runN l 29 := rfl
    rw [noD h] at e1
    rw [mW_cons, if_neg (by decide), e1]
    rfl
  · show mW (51 :: 48 :: l) = _
    have e1 : tkN (51 :: 48 :: l) = runN l 30 := rfl
    rw [noD h] at e1
    rw [mW_cons, if_neg (by decide), e1]
    rfl
theorem pr_dec {k : Int} (h0 : -1 ≤ k) (h1 : k ≤ 9) {t : List UInt8} (h : hdIn S7 t = true) (h' : tk Lib.indexByte [46] t = (0, t)) :
    (k = -1 ∧ tk Lib.indexByte [46] (t8 k t) = (0, t)) ∨ (tk Lib.indexByte [46] (t8 k t) = (1, (t8 k t).drop 1) ∧ tkN ((t8 k t).drop 1) = (k, t)) := by
  have hk : k = -1 ∨ k = 0 ∨ k = 1 ∨ k = 2 ∨ k = 3 ∨ k = 4 ∨ k = 5 ∨ k = 6 ∨ k = 7 ∨ k = 8 ∨ k = 9 := by omega
  rcases hk with rfl | rfl | rfl | rfl | rfl | rfl | rfl | rfl | rfl | rfl | rfl
  · exact Or.inl ⟨rfl, h'⟩
  · have e1 : tkN (48 :: t) = runN t 0 := rfl
    rw [noD h] at e1
    refine Or.inr ⟨rfl, ?_⟩
    show tkN (48 :: t) = _
    rw [e1]
  · have e1 : tkN (49 :: t) = runN t 1 := rfl
    rw [noD h] at e1
    refine Or.inr ⟨rfl, ?_⟩
    show tkN (49 :: t) = _
    rw [e1]
  · have e1 : tkN (50 :: t) = runN t 2 := rfl
    rw [noD h] at e1
    refine Or.inr ⟨rfl, ?_⟩
    show tkN (50 :: t) = _
    rw [e1]
  · have e1 : tkN (51 :: t) = runN t 3 := rfl
    rw [noD h] at e1
    refine Or.inr ⟨rfl, ?_⟩
    show tkN (51 :: t) = _
    rw [e1]
  · have e1 : tkN (52 :: t) = runN t 4 := rfl
    rw [noD h] at e1
    refine Or.inr ⟨rfl, ?_⟩
    show tkN (52 :: t) = _
    rw [e1]
  · have e1 : tkN (53 :: t) = runN t 5 := rfl
    rw [noD h] at e1
    refine Or.inr ⟨rfl, ?_⟩
    show tkN (53 :: t) = _
    rw [e1]
  · have e1 : tkN (54 :: t) = runN t 6 := rfl
    rw [noD h] at e1
    refine Or.inr ⟨rfl, ?_⟩
    show tkN (54 :: t) = _
    rw [e1]
  · have e1 : tkN (55 :: t) = runN t 7 := rfl
    rw [noD h] at e1
    refine Or.inr ⟨rfl, ?_⟩
    show tkN (55 :: t) = _
    rw [e1]
  · have e1 : tkN (56 :: t) = runN t 8 := rfl
    rw [noD h] at e1
    refine Or.inr ⟨rfl, ?_⟩
    show tkN (56 :: t) = _
    rw [e1]
  · have e1 : tkN (57 :: t) = runN t 9 := rfl
    rw [noD h] at e1
    refine Or.inr ⟨rfl, ?_⟩
    show tkN (57 :: t) = _
    rw [e1]
theorem mfS_head {f : ByteArray} (h : f = ⟨#[]⟩ ∨ ∃ b, f = ⟨#[b]⟩) : mfS f.data.toList.head? = f := by
  rcases h with rfl | ⟨b, rfl⟩
  · rfl
  · rfl
theorem mp_print {f : ByteArray} {al si : Int} {wi gr pr : Int} {t : ByteArray} (alt ze : Bool) (V : VS f al si wi gr pr t) :
    mpG (spL f.data.toList al si alt ze wi gr pr t.data.toList) = ⟨f, al, si, alt, ze, wi, gr, pr, t.data.toList, true⟩ := by
  have H := tls alt ze V
  have hix : ∀ (ms : List UInt8) (b : UInt8), b.toNat < 128 → Lib.indexByte ms (id b) = Lib.indexByte ms b := fun _ _ _ => rfl
  have e3 := tk_no hix H.h3 (ms := al4) (by decide +kernel)
  have e4 := tk_no hix H.h4 (ms := si3) (by decide +kernel)
  have e5 := tk_no hix H.h5 (ms := [35]) (by decide +kernel)
  have e6 := tk_no hix H.h6 (ms := [48]) (by decide +kernel)
  have e8 := tk_no hix H.h8 (ms := gr2) (by decide +kernel)
  have e9 := tk_no hix H.h9 (ms := [46]) (by decide +kernel)
  have q2 := tk_al hix V.al0 V.al4 e3
  have q3 := tk_si hix V.si0 V.si3 e4
  have q4 := tk_b hix 35 (by decide) alt e5
  have q5 := tk_b hix 48 (by decide) ze e6
  have q7 := tk_gr hix V.gr0 V.gr2 e8
  rw [List.map_id] at e9
  simp only [List.map_id] at q2 q3 q4 q5 q7
  have q6 := mW_dec V.wi0 V.wi30 H.h7
  have q8 := pr_dec V.pr0 V.pr9 (hdIn_mono H.h9 (by decide +kernel)) e9
  have hF := tkF_print alt ze V
  unfold mpG
  simp only [hF]
  unfold t2
  simp only [q2]
  unfold t3
  simp only [q3]
  unfold t4
  simp only [q4]
  unfold t5
  simp only [q5]
  unfold t6
  simp only [q6]
  unfold t7
  simp only [q7]
  rw [mfS_head (okFill_cases V.fill)]
  rcases q8 with ⟨rfl, h2⟩ | ⟨h1, h2⟩
  · simp only [h2]
    cases alt <;> cases ze <;> rfl
  · simp only [h1, h2]
    have hp : decide (0 ≤ pr) = true := by
      by_cases h0 : pr = -1
      · exfalso
        subst h0
        have h3 : tk Lib.indexByte [46] (t8 (-1) t.data.toList) = (0, t.data.toList) := e9
        rw [h3] at h1
        exact absurd (congrArg Prod.fst h1) (by show ¬ (0 : Int) = 1; decide)
      · have := V.pr0
        exact decide_eq_true (by omega)
    rw [hp]
    cases alt <;> cases ze <;> rfl
/-- what the model's ParseSpec answers -/
def mqV (M : MP) (l : List UInt8) : Value := if M.fine && mpOk M l then .tuple #[.agg #[.string M.f, .int .i64 M.al, .int .i64 M.si, .bool M.alt, .bool M.ze, .int .i64 M.wi, .int .i64 M.gr, .int .i64 M.pr, .string ⟨M.ty.toArray⟩], .bool true] else .tuple #[zAgg, .bool false]
theorem ps_tie (l : List UInt8) : psV (psG ixI (rnL ⟨l.toArray⟩)) ⟨l.toArray⟩ = mqV (mpG l) l := by
  by_cases h : ∃ (f : ByteArray) (al si : Int) (alt ze : Bool) (wi gr pr : Int) (t : ByteArray), vSp f al si wi gr pr t = true ∧ l = spL f.data.toList al si alt ze wi gr pr t.data.toList
  · obtain ⟨f, al, si, alt, ze, wi, gr, pr, t, hv, rfl⟩ := h
    rw [ps_print alt ze hv, mp_print alt ze (vSp_open hv)]
    unfold mqV mpOk
    dsimp only
    rw [show (⟨t.data.toList.toArray⟩ : ByteArray) = t from (of_list t).symm, hv]
    simp
  · have h1 : mqV (mpG l) l = .tuple #[zAgg, .bool false] := by
      unfold mqV
      rw [if_neg]
      intro hc
      simp only [Bool.and_eq_true] at hc
      have h2 := hc.2
      unfold mpOk at h2
      simp only [Bool.and_eq_true, beq_iff_eq] at h2
      exact h ⟨_, _, _, _, _, _, _, _, _, h2.1, h2.2.symm⟩
    have h3 : psV (psG ixI (rnL ⟨l.toArray⟩)) ⟨l.toArray⟩ = .tuple #[zAgg, .bool false] := by
      unfold psV
      rw [if_neg]
      intro hc
      unfold psOk at hc
      generalize psG ixI (rnL ⟨l.toArray⟩) = M at hc
      have e := eq_of_beq hc
      cases hv : vSp (fillS M.f) M.al M.si M.wi M.gr M.pr ⟨(mk types M.ty).toArray⟩
      · rw [hv] at e
        have e2 : [] = l := e
        exact h ⟨⟨#[]⟩, 0, 0, false, false, 0, 0, -1, ⟨#[]⟩, by decide +kernel, by rw [← e2]; rfl⟩
      · rw [hv] at e
        have e2 : spL (fillS M.f).data.toList M.al M.si M.alt M.ze M.wi M.gr M.pr (⟨(mk types M.ty).toArray⟩ : ByteArray).data.toList = l := e
        exact h ⟨_, _, _, _, _, _, _, _, _, hv, e2.symm⟩
    rw [h1, h3]
theorem okParse {l : List UInt8} (h : ((mpG l).fine && mpOk (mpG l) l) = true) : vSp (mpG l).f (mpG l).al (mpG l).si (mpG l).wi (mpG l).gr (mpG l).pr ⟨(mpG l).ty.toArray⟩ = true ∧ stW true (mpG l).f (mpG l).al (mpG l).si (mpG l).alt (mpG l).ze (mpG l).wi (mpG l).gr (mpG l).pr ⟨(mpG l).ty.toArray⟩ = ⟨l.toArray⟩ := by
  simp only [Bool.and_eq_true] at h
  have h2 := h.2
  unfold mpOk at h2
  simp only [Bool.and_eq_true, beq_iff_eq] at h2
  refine ⟨h2.1, ?_⟩
  show (⟨(spL (mpG l).f.data.toList (mpG l).al (mpG l).si (mpG l).alt (mpG l).ze (mpG l).wi (mpG l).gr (mpG l).pr (mpG l).ty).toArray⟩ : ByteArray) = _
  rw [h2.2]
set_option maxHeartbeats 4000000 in
theorem ParseSpecS_any (l : List UInt8) (hl : l.length ≤ 1048576) (w : World) :
    Calls Tryd.prog 10 #[.string ⟨l.toArray⟩] w fun r w' => r = .returned (mqV (mpG l) l) ∧ Below w.heap.size w w' := by
  have k1 := fun W => parseSpecS_any l hl W
  unfold mqV
  unfold mpV at k1
  generalize mpG l = M at *
  generalize mpOk M l = b at *
  have zr := C9.new w (.string ⟨#[]⟩) (.int .i64 0) (.int .i64 0) (.bool false) (.bool false) (.int .i64 0) (.int .i64 0) (.int .i64 0) (.string ⟨#[]⟩) 25
  have hB : Below w.heap.size w (w.alloc (.cells #[.string ⟨#[]⟩, .int .i64 0, .int .i64 0, .bool false, .bool false, .int .i64 0, .int .i64 0, .int .i64 0, .string ⟨#[]⟩] 25)) := Below.alloc (Below.refl _ _) (Nat.le_refl _) _
  obtain ⟨f, al, si, alt, ze, wi, gr, pr, ty, fine⟩ := M
  dsimp only at k1 ⊢
  generalize (⟨l.toArray⟩ : ByteArray) = S at *
  clear hl
  cases fine
  · rw [if_neg (by simp)] at k1
    rw [if_neg (by simp)]
    have K1 := Lib.hid k1
    clear k1
    go_enter Tryd.func10, Tryd.ntmps10
    repeat (first | (go_at_call 26; (with_reducible refine Calls.mono (K1.out _) ?_); rintro r w1 ⟨rfl, hb⟩; (first | (have hB0 : Below w.heap.size w w1 := (by refine Below.trans ?_ (hb.mono (by first | omega | (simp; done) | (simp <;> omega))); repeat (first | with_reducible exact Below.refl _ _ | with_reducible assumption | with_reducible refine Below.setCell ?_ (by first | omega | (simp; done) | (simp <;> omega)) _ | with_reducible refine below_drewN ?_ _ | with_reducible refine Below.drew ?_ | with_reducible refine Below.alloc ?_ (by first | omega | (simp; done) | (simp <;> omega)) _)); have zN := C9.carryP_of zr (by repeat (first | with_reducible assumption | with_reducible apply C9.up)) hb; clear zr hB; have zr := zN; have hB := hB0; clear zN hB0; obtain ⟨y0, y1, y2, y3, y4, y5, y6, y7, y8, yf, yl⟩ := zr) | (trace_state; fail)); (try dsimp only)) | go_values | go_skip | go_guarded | go_step | go_upon)
    all_goals refine bodyPost_ret (v := .tuple #[.agg #[.string ⟨#[]⟩, .int .i64 0, .int .i64 0, .bool false, .bool false, .int .i64 0, .int .i64 0, .int .i64 0, .string ⟨#[]⟩], .bool false]) ?_ rfl ⟨rfl, (by repeat (first | with_reducible exact Below.refl _ _ | with_reducible assumption | with_reducible refine Below.setCell ?_ (by first | omega | (simp; done) | (simp <;> omega)) _ | with_reducible refine below_drewN ?_ _ | with_reducible refine Below.drew ?_ | with_reducible refine Below.alloc ?_ (by first | omega | (simp; done) | (simp <;> omega)) _))⟩
    all_goals simp [results, Tryd.results10, go_sem, *]
  · rw [if_pos rfl] at k1
    generalize (⟨ty.toArray⟩ : ByteArray) = t at *
    cases b
    · rw [if_neg (by simp)]
      have K1 := Lib.hid k1
      clear k1
      go_enter Tryd.func10, Tryd.ntmps10
      repeat (first | (go_at_call 26; (with_reducible refine Calls.mono (K1.out _) ?_); rintro r w1 ⟨rfl, hb⟩; (first | (have hB0 : Below w.heap.size w w1 := (by refine Below.trans ?_ (hb.mono (by first | omega | (simp; done) | (simp <;> omega))); repeat (first | with_reducible exact Below.refl _ _ | with_reducible assumption | with_reducible refine Below.setCell ?_ (by first | omega | (simp; done) | (simp <;> omega)) _ | with_reducible refine below_drewN ?_ _ | with_reducible refine Below.drew ?_ | with_reducible refine Below.alloc ?_ (by first | omega | (simp; done) | (simp <;> omega)) _)); have zN := C9.carryP_of zr (by repeat (first | with_reducible assumption | with_reducible apply C9.up)) hb; clear zr hB; have zr := zN; have hB := hB0; clear zN hB0; obtain ⟨y0, y1, y2, y3, y4, y5, y6, y7, y8, yf, yl⟩ := zr) | (trace_state; fail)); (try dsimp only)) | go_values | go_skip | go_guarded | go_step | go_upon)
      all_goals refine bodyPost_ret (v := .tuple #[.agg #[.string ⟨#[]⟩, .int .i64 0, .int .i64 0, .bool false, .bool false, .int .i64 0, .int .i64 0, .int .i64 0, .string ⟨#[]⟩], .bool false]) ?_ rfl ⟨rfl, (by repeat (first | with_reducible exact Below.refl _ _ | with_reducible assumption | with_reducible refine Below.setCell ?_ (by first | omega | (simp; done) | (simp <;> omega)) _ | with_reducible refine below_drewN ?_ _ | with_reducible refine Below.drew ?_ | with_reducible refine Below.alloc ?_ (by first | omega | (simp; done) | (simp <;> omega)) _))⟩
      all_goals simp [results, Tryd.results10, go_sem, *]
    · rw [if_pos (by simp)]
      have K1 := Lib.hid k1
      clear k1
      go_enter Tryd.func10, Tryd.ntmps10
      repeat (first | (go_at_call 26; (with_reducible refine Calls.mono (K1.out _) ?_); rintro r w1 ⟨rfl, hb⟩; (first | (have hB0 : Below w.heap.size w w1 := (by refine Below.trans ?_ (hb.mono (by first | omega | (simp; done) | (simp <;> omega))); repeat (first | with_reducible exact Below.refl _ _ | with_reducible assumption | with_reducible refine Below.setCell ?_ (by first | omega | (simp; done) | (simp <;> omega)) _ | with_reducible refine below_drewN ?_ _ | with_reducible refine Below.drew ?_ | with_reducible refine Below.alloc ?_ (by first | omega | (simp; done) | (simp <;> omega)) _)); have zN := C9.carryP_of zr (by repeat (first | with_reducible assumption | with_reducible apply C9.up)) hb; clear zr hB; have zr := zN; have hB := hB0; clear zN hB0; obtain ⟨y0, y1, y2, y3, y4, y5, y6, y7, y8, yf, yl⟩ := zr) | (trace_state; fail)); (try dsimp only)) | go_values | go_skip | go_guarded | go_step | go_upon)
      all_goals refine bodyPost_ret (v := .tuple #[.agg #[.string f, .int .i64 al, .int .i64 si, .bool alt, .bool ze, .int .i64 wi, .int .i64 gr, .int .i64 pr, .string t], .bool true]) ?_ rfl ⟨rfl, (by repeat (first | with_reducible exact Below.refl _ _ | with_reducible assumption | with_reducible refine Below.setCell ?_ (by first | omega | (simp; done) | (simp <;> omega)) _ | with_reducible refine below_drewN ?_ _ | with_reducible refine Below.drew ?_ | with_reducible refine Below.alloc ?_ (by first | omega | (simp; done) | (simp <;> omega)) _))⟩
      all_goals simp [results, Tryd.results10, go_sem, *]
end Go.Proofs.YtbkdjldimmhbjaaDoor
