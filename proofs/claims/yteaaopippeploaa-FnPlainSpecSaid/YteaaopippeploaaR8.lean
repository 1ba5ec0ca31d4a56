import Derived.Test.YteaaopippeploaaV10
namespace Go.Proofs.Yteaaopippeploaa

theorem fillW_ok (f : ByteArray) (al k : Int) (ze : Bool) (hf : okFill f al = true) (h0 : 0 ≤ al) (h4 : al ≤ 4) :
    okFill (fillW true f ze) (alW al ze k) = true ∧ fillW true (fillW true f ze) false = fillW true f ze ∧ ¬ alW al ze k = 0 ∧ 0 ≤ alW al ze k ∧ alW al ze k ≤ 4 := by
  have ha : ¬ alW al ze k = 0 ∧ 0 ≤ alW al ze k ∧ alW al ze k ≤ 4 := by
    unfold alW
    by_cases h : al = 0
    · rw [if_pos h]
      cases ze
      · by_cases hk : k = 2
        · rw [if_neg (by simp), if_pos hk]; omega
        · rw [if_neg (by simp), if_neg hk]; omega
      · rw [if_pos rfl]; omega
    · rw [if_neg h]; exact ⟨h, h0, h4⟩
  have hb : (alW al ze k == 0) = false := by simpa using ha.1
  rcases okFill_cases hf with rfl | ⟨b, rfl⟩
  · cases ze
    · exact ⟨by show (!(alW al false k == 0) && okByte 32 && !((32 : UInt8) == 123) && !((32 : UInt8) == 125)) = true; rw [hb]; rfl, rfl, ha⟩
    · exact ⟨by show (!(alW al true k == 0) && okByte 48 && !((48 : UInt8) == 123) && !((48 : UInt8) == 125)) = true; rw [hb]; rfl, rfl, ha⟩
  · refine ⟨?_, rfl, ha⟩
    show (!(alW al ze k == 0) && okByte b && !(b == 123) && !(b == 125)) = true
    have h : (!(al == 0) && okByte b && !(b == 123) && !(b == 125)) = true := hf
    rw [hb]
    simp only [Bool.and_eq_true] at h ⊢
    exact ⟨⟨⟨by first | rfl | trivial, h.1.1.2⟩, h.1.2⟩, h.2⟩
theorem suitT_nil (al si : Int) (alt ze : Bool) (gr pr k : Int) : suitT al si alt ze gr pr ⟨#[]⟩ k = if k = 0 then pr == -1 else if k = 1 then pr == -1 && !alt else if k = 2 then !marksW al si alt ze gr else false := rfl
theorem suitT_one (al si : Int) (alt ze : Bool) (gr pr k : Int) (b : UInt8) : suitT al si alt ze gr pr ⟨#[b]⟩ k = (kindB b == k && (if k = 0 then pr == -1 && (if b == 99 then !marksW al si alt ze gr else (!(gr == 1) || b == 100)) else if k = 1 then true else if k = 2 then !marksW al si alt ze gr else false)) := rfl
theorem marks_ok {al si gr : Int} {alt ze : Bool} {k : Int} {c : Bool} (h : (!marksW al si alt ze gr) = true) (hc : k = 2 ∨ c = true) : (!marksW (alW al ze k) (siW si k c) alt false gr) = true := by
  simp only [marksW, Bool.not_eq_true', Bool.or_eq_false_iff, Bool.not_eq_false'] at h ⊢
  obtain ⟨h1, h2, h3, h4, h5⟩ := h
  have e2 : si = 0 := by simpa using h2
  subst e2 h4
  refine ⟨?_, ?_, h3, by first | rfl | trivial, h5⟩
  · unfold alW
    by_cases h : al = 0
    · rw [if_pos h, if_neg (by simp)]
      by_cases hk : k = 2
      · rw [if_pos hk]; rfl
      · rw [if_neg hk]; rfl
    · rw [if_neg h]; exact h1
  · unfold siW
    rw [if_pos rfl]
    rcases hc with hc | hc
    · rw [if_pos hc]; rfl
    · subst hc
      by_cases hk : k = 2
      · rw [if_pos hk]; rfl
      · rw [if_neg hk, if_pos rfl]; rfl
/-- the plain specification suits, and is plain -/
theorem P20_ok {f : ByteArray} {al si : Int} {alt ze : Bool} {wi gr pr : Int} {t : ByteArray} {k : Int} (h : suitW (vSp f al si wi gr pr t) al si alt ze gr pr t k = true) :
    vSp (fillW true f ze) (alW al ze k) (siW si k (isC t)) wi gr pr (tyW t k) = true ∧
    suitT (alW al ze k) (siW si k (isC t)) alt false gr pr (tyW t k) k = true ∧
    fillW true (fillW true f ze) false = fillW true f ze ∧ alW (alW al ze k) false k = alW al ze k ∧ siW (siW si k (isC t)) k (isC (tyW t k)) = siW si k (isC t) ∧ tyW (tyW t k) k = tyW t k := by
  simp only [suitW, Bool.and_eq_true] at h
  obtain ⟨hv, hs⟩ := h
  have V := vSp_open hv
  obtain ⟨q1, q2, q3, q4, q5⟩ := fillW_ok f al k ze V.fill V.al0 V.al4
  have hsi : 0 ≤ siW si k (isC t) ∧ siW si k (isC t) ≤ 3 := by
    have := V.si0; have := V.si3
    unfold siW
    split
    · split
      · omega
      · split <;> omega
    · omega
  have hmk : ∀ t', okType t' = true → vSp (fillW true f ze) (alW al ze k) (siW si k (isC t)) wi gr pr t' = true := by
    intro t' ht'
    have := V.gr0; have := V.gr2; have := V.wi0; have := V.wi30; have := V.pr0; have := V.pr9
    simp only [vSp, inr, Bool.and_eq_true, decide_eq_true_eq]
    exact ⟨⟨⟨⟨⟨⟨⟨by omega, by omega⟩, by omega, by omega⟩, by omega, by omega⟩, by omega, by omega⟩, by omega, by omega⟩, q1⟩, ht'⟩
  have hal0 : ∀ x : Int, ¬ x = 0 → alW x false k = x := fun x hx => by unfold alW; rw [if_neg hx]
  have hal : alW (alW al ze k) false k = alW al ze k := hal0 _ q3
  have hsw : ∀ c c' : Bool, (c' = c ∨ c = false ∧ c' = false) → siW (siW si k c) k c' = siW si k c := by
    intro c c' hc
    unfold siW
    by_cases h1 : si = 0
    · by_cases h2 : k = 2
      · simp [h1, h2]
      · cases c <;> cases c' <;> simp_all
    · simp [h1]
  rcases okType_cases V.type with rfl | ⟨b, rfl⟩
  · rw [suitT_nil] at hs
    by_cases h0 : k = 0
    · subst h0
      rw [if_pos rfl] at hs
      refine ⟨hmk _ rfl, ?_, q2, hal, hsw _ _ (.inl rfl), rfl⟩
      rw [show tyW ⟨#[]⟩ 0 = ⟨#[100]⟩ from rfl, suitT_one, if_pos rfl, hs]
      simp [kindB]
    · rw [if_neg h0] at hs
      by_cases h1 : k = 1
      · subst h1
        rw [if_pos rfl] at hs
        exact ⟨hmk _ rfl, hs, q2, hal, hsw _ _ (.inl rfl), rfl⟩
      · rw [if_neg h1] at hs
        by_cases h2 : k = 2
        · subst h2
          rw [if_pos rfl] at hs
          refine ⟨hmk _ rfl, ?_, q2, hal, hsw _ _ (.inl rfl), rfl⟩
          rw [show tyW ⟨#[]⟩ 2 = ⟨#[115]⟩ from rfl, suitT_one, if_neg (by decide), if_neg (by decide), if_pos rfl, marks_ok hs (.inl rfl)]
          rfl
        · rw [if_neg h2] at hs; cases hs
  · rw [show tyW ⟨#[b]⟩ k = ⟨#[b]⟩ from rfl]
    refine ⟨hmk _ V.type, ?_, q2, hal, hsw _ _ (.inl rfl), rfl⟩
    rw [suitT_one, Bool.and_eq_true] at hs ⊢
    refine ⟨hs.1, ?_⟩
    have hs2 := hs.2
    by_cases h0 : k = 0
    · rw [if_pos h0, Bool.and_eq_true] at hs2 ⊢
      refine ⟨hs2.1, ?_⟩
      cases hb : (b == 99)
      · rw [hb] at hs2; simpa using hs2.2
      · rw [hb] at hs2
        rw [if_pos rfl]
        rw [if_pos rfl] at hs2
        exact marks_ok hs2.2 (.inr hb)
    · rw [if_neg h0] at hs2 ⊢
      by_cases h1 : k = 1
      · rw [if_pos h1]
      · rw [if_neg h1] at hs2 ⊢
        by_cases h2 : k = 2
        · rw [if_pos h2] at hs2 ⊢
          exact marks_ok hs2 (.inl h2)
        · rw [if_neg h2] at hs2; cases hs2
end Go.Proofs.Yteaaopippeploaa
