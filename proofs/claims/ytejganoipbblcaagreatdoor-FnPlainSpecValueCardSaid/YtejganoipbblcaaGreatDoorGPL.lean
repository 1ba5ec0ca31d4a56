import Derived.Test.YtejganoipbblcaaGreatDoorR6
import Derived.Test.YtejganoipbblcaaGreatDoorV10
import Derived.Test.YtejganoipbblcaaGreatDoorGV2
namespace Go.Proofs.YtejganoipbblcaaGreatDoor
open Go.RowKit

/-- some specification and a number -/
def IsSpI (r : Ending) : Prop := ∃ f al si alt ze wi gr pr t k, r = .returned (.tuple #[.agg #[.string f, .int .i64 al, .int .i64 si, .bool alt, .bool ze, .int .i64 wi, .int .i64 gr, .int .i64 pr, .string t], .int .i64 k])
theorem IsSpI.mk (f : ByteArray) (al si : Int) (alt ze : Bool) (wi gr pr : Int) (t : ByteArray) (k : Int) : IsSpI (.returned (.tuple #[.agg #[.string f, .int .i64 al, .int .i64 si, .bool alt, .bool ze, .int .i64 wi, .int .i64 gr, .int .i64 pr, .string t], .int .i64 k])) := ⟨f, al, si, alt, ze, wi, gr, pr, t, k, rfl⟩
set_option maxRecDepth 100000 in
set_option maxHeartbeats 8000000 in
theorem DrawAlignFor_any (s : Option Addr) (len cap : Nat) (w : World) (h : CodeAt s len w.heap.size w) (hcap : len ≤ cap) :
    Calls Tryz.prog 38 #[.slice s len cap] w fun r w' => IsSpI r ∧ Below w.heap.size w w' := by
  have zr := C9.new w (.string ⟨#[]⟩) (.int .i64 0) (.int .i64 0) (.bool false) (.bool false) (.int .i64 0) (.int .i64 0) (.int .i64 0) (.string ⟨#[]⟩) 24
  have hB0 : Below w.heap.size w (w.alloc (.cells #[.string ⟨#[]⟩, .int .i64 0, .int .i64 0, .bool false, .bool false, .int .i64 0, .int .i64 0, .int .i64 0, .string ⟨#[]⟩] 24)) := (Below.refl _ _).alloc (Nat.le_refl _) _
  go_enter Tryz.func38, Tryz.ntmps38
  go_wp2_with (first | (go_at_call 50; (with_reducible refine Calls.mono (newReader_any _ _ _ _ (h.up _) hcap) ?_); rintro r wa ⟨R, rfl, hR, hr, hb⟩; (try simp at hR); have zN := zr.carry hb; clear zr; have zr := zN; clear zN; have hB := hB0.trans (hb.mono hB0.size); have hR0 := hr.1; have hzz := hb.size; (try simp at hzz); clear hb) | (go_at_call 52; (fail_if_success (have kT := kd)); (with_reducible refine Calls.mono (pick_of _ hr hr ?_) ?_); omega; rintro r wb ⟨⟨kd, rfl, hx0, hx1⟩, hrN, hk⟩; have hBN : Below w.heap.size w wb := below_kp hB hk (by omega) (by have := hr.1; omega); have zrN := C9.kp_of zr (by repeat (first | with_reducible assumption | with_reducible apply C9.up | (with_reducible apply C9.far; (case hn => (first | omega | (simp; omega)))) | with_reducible apply C9.set0 | with_reducible apply C9.set1 | with_reducible apply C9.set2 | with_reducible apply C9.set3 | with_reducible apply C9.set4 | with_reducible apply C9.set5 | with_reducible apply C9.set6 | with_reducible apply C9.set7 | with_reducible apply C9.set8 | with_reducible apply C9.drew)) hk (by omega); have hsz := hk.size; have hR1 := hrN.1; clear hr zr hB hk hx0 hx1; (try clear y0 y1 y2 y3 y4 y5 y6 y7 y8 yf yl); have hr := hrN; have zr := zrN; have hB := hBN; clear hrN zrN hBN; have zz := zr; obtain ⟨y0, y1, y2, y3, y4, y5, y6, y7, y8, yf, yl⟩ := zz) | (go_at_call 52; (with_reducible refine Calls.mono (pick_of _ hr hr ?_) ?_); omega; rintro r wb ⟨⟨kk, rfl, hx0, hx1⟩, hrN, hk⟩; have hBN : Below w.heap.size w wb := below_kp hB hk (by omega) (by have := hr.1; omega); have zrN := C9.kp_of zr (by repeat (first | with_reducible assumption | with_reducible apply C9.up | (with_reducible apply C9.far; (case hn => (first | omega | (simp; omega)))) | with_reducible apply C9.set0 | with_reducible apply C9.set1 | with_reducible apply C9.set2 | with_reducible apply C9.set3 | with_reducible apply C9.set4 | with_reducible apply C9.set5 | with_reducible apply C9.set6 | with_reducible apply C9.set7 | with_reducible apply C9.set8 | with_reducible apply C9.drew)) hk (by omega); have hsz := hk.size; have hR1 := hrN.1; clear hr zr hB hk hx0 hx1; (try clear y0 y1 y2 y3 y4 y5 y6 y7 y8 yf yl); have hr := hrN; have zr := zrN; have hB := hBN; clear hrN zrN hBN; have zz := zr; obtain ⟨y0, y1, y2, y3, y4, y5, y6, y7, y8, yf, yl⟩ := zz) | (go_at_call 53; (with_reducible refine Calls.mono (someSpec_any _ _ _ hr ?_) ?_); omega; rintro r wd ⟨⟨f, al, si, alt, ze, wi, gr, pr, t, rfl⟩, hrN, hk⟩; have hBN : Below w.heap.size w wd := below_kp hB hk (by omega) (by have := hr.1; omega); have zrN := C9.kp_of zr (by repeat (first | with_reducible assumption | with_reducible apply C9.up | (with_reducible apply C9.far; (case hn => (first | omega | (simp; omega)))) | with_reducible apply C9.set0 | with_reducible apply C9.set1 | with_reducible apply C9.set2 | with_reducible apply C9.set3 | with_reducible apply C9.set4 | with_reducible apply C9.set5 | with_reducible apply C9.set6 | with_reducible apply C9.set7 | with_reducible apply C9.set8 | with_reducible apply C9.drew)) hk (by omega); have hsz := hk.size; have hR1 := hrN.1; clear hr zr hB hk; (try clear y0 y1 y2 y3 y4 y5 y6 y7 y8 yf yl); have hr := hrN; have zr := zrN; have hB := hBN; clear hrN zrN hBN; have zz := zr; obtain ⟨y0, y1, y2, y3, y4, y5, y6, y7, y8, yf, yl⟩ := zz) | (go_at_call 51; (with_reducible refine Calls.mono (specFor_any _ _ _ _ hr ?_) ?_); omega; rintro r wd ⟨⟨f, al, si, alt, ze, wi, gr, pr, t, rfl⟩, hrN, hk⟩; have hBN : Below w.heap.size w wd := below_kp hB hk (by omega) (by have := hr.1; omega); have zrN := C9.kp_of zr (by repeat (first | with_reducible assumption | with_reducible apply C9.up | (with_reducible apply C9.far; (case hn => (first | omega | (simp; omega)))) | with_reducible apply C9.set0 | with_reducible apply C9.set1 | with_reducible apply C9.set2 | with_reducible apply C9.set3 | with_reducible apply C9.set4 | with_reducible apply C9.set5 | with_reducible apply C9.set6 | with_reducible apply C9.set7 | with_reducible apply C9.set8 | with_reducible apply C9.drew)) hk (by omega); have hsz := hk.size; have hR1 := hrN.1; clear hr zr hB hk; (try clear y0 y1 y2 y3 y4 y5 y6 y7 y8 yf yl); have hr := hrN; have zr := zrN; have hB := hBN; clear hrN zrN hBN; have zz := zr; obtain ⟨y0, y1, y2, y3, y4, y5, y6, y7, y8, yf, yl⟩ := zz))
  all_goals refine bodyPost_ret (v := .tuple #[.agg #[.string f, .int .i64 al, .int .i64 si, .bool alt, .bool ze, .int .i64 wi, .int .i64 gr, .int .i64 pr, .string t], .int .i64 kd]) ?_ rfl ⟨IsSpI.mk _ _ _ _ _ _ _ _ _ kd, (by repeat (first | with_reducible exact Below.refl _ _ | with_reducible assumption | with_reducible refine Below.setCell ?_ (by first | omega | (simp; done) | (simp <;> omega)) _ | with_reducible refine below_drewN ?_ _ | with_reducible refine Below.drew ?_ | with_reducible refine Below.alloc ?_ (by first | omega | (simp; done) | (simp <;> omega)) _))⟩
  all_goals simp [results, Tryz.results38, go_sem, *]
set_option maxRecDepth 100000 in
set_option maxHeartbeats 8000000 in
theorem DrawPlainSpec_any (s : Option Addr) (len cap : Nat) (w : World) (h : CodeAt s len w.heap.size w) (hcap : len ≤ cap) :
    Calls Tryz.prog 11 #[.slice s len cap] w fun r w' => IsSpI r ∧ Below w.heap.size w w' := by
  have zr := C9.new w (.string ⟨#[]⟩) (.int .i64 0) (.int .i64 0) (.bool false) (.bool false) (.int .i64 0) (.int .i64 0) (.int .i64 0) (.string ⟨#[]⟩) 24
  have hB0 : Below w.heap.size w (w.alloc (.cells #[.string ⟨#[]⟩, .int .i64 0, .int .i64 0, .bool false, .bool false, .int .i64 0, .int .i64 0, .int .i64 0, .string ⟨#[]⟩] 24)) := (Below.refl _ _).alloc (Nat.le_refl _) _
  go_enter Tryz.func11, Tryz.ntmps11
  go_wp2_with (go_at_call 38; (with_reducible refine Calls.mono (DrawAlignFor_any _ _ _ _ (h.up _) hcap) ?_); rintro r wd ⟨⟨f, al, si, alt, ze, wi, gr, pr, t, kd, rfl⟩, hb⟩; have zN := zr.carry hb; clear zr; have zr := zN; clear zN; have hB := hB0.trans (hb.mono hB0.size); have zz := zr; obtain ⟨y0, y1, y2, y3, y4, y5, y6, y7, y8, yf, yl⟩ := zz)
  all_goals refine bodyPost_ret (v := .tuple #[.agg #[.string f, .int .i64 al, .int .i64 si, .bool alt, .bool ze, .int .i64 wi, .int .i64 gr, .int .i64 pr, .string t], .int .i64 kd]) ?_ rfl ⟨IsSpI.mk _ _ _ _ _ _ _ _ _ kd, (by repeat (first | with_reducible exact Below.refl _ _ | with_reducible assumption | with_reducible refine Below.setCell ?_ (by first | omega | (simp; done) | (simp <;> omega)) _ | with_reducible refine below_drewN ?_ _ | with_reducible refine Below.drew ?_ | with_reducible refine Below.alloc ?_ (by first | omega | (simp; done) | (simp <;> omega)) _))⟩
  all_goals simp [results, Tryz.results11, go_sem, *]
end Go.Proofs.YtejganoipbblcaaGreatDoor
namespace Go.Proofs.YtejganoipbblcaaGreatDoor

theorem fillW_ok (f : ByteArray) (al k : Int) (ze : Bool) (hf : okFill f al = true) (h0 : 0 ≤ al) (h4 : al ≤ 4) :
    okFill (fillW true f ze) (alW al ze k) = true ∧ fillW true (fillW true f ze) false = fillW true f ze ∧ ¬ alW al ze k = 0 ∧ 0 ≤ alW al ze k ∧ alW al ze k ≤ 4 := by
  have ha : ¬ alW al ze k = 0 ∧ 0 ≤ alW al ze k ∧ alW al ze k ≤ 4 := by
    unfold alW
    by_cases h : al = 0
    · rw [if_pos h]
      cases ze
      · by_cases hk : k = 2
        · rw [if_neg (by simp), if_pos hk]; omega
        · rw [if_neg (by simp), if_neg hk]; omega
      · rw [if_pos rfl]; omega
    · rw [if_neg h]; exact ⟨h, h0, h4⟩
  have hb : (alW al ze k == 0) = false := by simpa using ha.1
  rcases okFill_cases hf with rfl | ⟨b, rfl⟩
  · cases ze
    · exact ⟨by show (!(alW al false k == 0) && okByte 32 && !((32 : UInt8) == 123) && !((32 : UInt8) == 125)) = true; rw [hb]; rfl, rfl, ha⟩
    · exact ⟨by show (!(alW al true k == 0) && okByte 48 && !((48 : UInt8) == 123) && !((48 : UInt8) == 125)) = true; rw [hb]; rfl, rfl, ha⟩
  · refine ⟨?_, rfl, ha⟩
    show (!(alW al ze k == 0) && okByte b && !(b == 123) && !(b == 125)) = true
    have h : (!(al == 0) && okByte b && !(b == 123) && !(b == 125)) = true := hf
    rw [hb]
    simp only [Bool.and_eq_true] at h ⊢
    exact ⟨⟨⟨by first | rfl | trivial, h.1.1.2⟩, h.1.2⟩, h.2⟩
theorem suitT_nil (al si : Int) (alt ze : Bool) (gr pr k : Int) : suitT al si alt ze gr pr ⟨#[]⟩ k = if k = 0 then pr == -1 else if k = 1 then pr == -1 && !alt else if k = 2 then !marksW al si alt ze gr else false := rfl
theorem suitT_one (al si : Int) (alt ze : Bool) (gr pr k : Int) (b : UInt8) : suitT al si alt ze gr pr ⟨#[b]⟩ k = (kindB b == k && (if k = 0 then pr == -1 && (if b == 99 then !marksW al si alt ze gr else (!(gr == 1) || b == 100)) else if k = 1 then true else if k = 2 then !marksW al si alt ze gr else false)) := rfl
theorem marks_ok {al si gr : Int} {alt ze : Bool} {k : Int} {c : Bool} (h : (!marksW al si alt ze gr) = true) (hc : k = 2 ∨ c = true) : (!marksW (alW al ze k) (siW si k c) alt false gr) = true := by
  simp only [marksW, Bool.not_eq_true', Bool.or_eq_false_iff, Bool.not_eq_false'] at h ⊢
  obtain ⟨h1, h2, h3, h4, h5⟩ := h
  have e2 : si = 0 := by simpa using h2
  subst e2 h4
  refine ⟨?_, ?_, h3, by first | rfl | trivial, h5⟩
  · unfold alW
    by_cases h : al = 0
    · rw [if_pos h, if_neg (by simp)]
      by_cases hk : k = 2
      · rw [if_pos hk]; rfl
      · rw [if_neg hk]; rfl
    · rw [if_neg h]; exact h1
  · unfold siW
    rw [if_pos rfl]
    rcases hc with hc | hc
    · rw [if_pos hc]; rfl
    · subst hc
      by_cases hk : k = 2
      · rw [if_pos hk]; rfl
      · rw [if_neg hk, if_pos rfl]; rfl
/-- the plain specification suits, and is plain -/
theorem P20_ok {f : ByteArray} {al si : Int} {alt ze : Bool} {wi gr pr : Int} {t : ByteArray} {k : Int} (h : suitW (vSp f al si wi gr pr t) al si alt ze gr pr t k = true) :
    vSp (fillW true f ze) (alW al ze k) (siW si k (isC t)) wi gr pr (tyW t k) = true ∧
    suitT (alW al ze k) (siW si k (isC t)) alt false gr pr (tyW t k) k = true ∧
    fillW true (fillW true f ze) false = fillW true f ze ∧ alW (alW al ze k) false k = alW al ze k ∧ siW (siW si k (isC t)) k (isC (tyW t k)) = siW si k (isC t) ∧ tyW (tyW t k) k = tyW t k := by
  simp only [suitW, Bool.and_eq_true] at h
  obtain ⟨hv, hs⟩ := h
  have V := vSp_open hv
  obtain ⟨q1, q2, q3, q4, q5⟩ := fillW_ok f al k ze V.fill V.al0 V.al4
  have hsi : 0 ≤ siW si k (isC t) ∧ siW si k (isC t) ≤ 3 := by
    have := V.si0; have := V.si3
    unfold siW
    split
    · split
      · omega
      · split <;> omega
    · omega
  have hmk : ∀ t', okType t' = true → vSp (fillW true f ze) (alW al ze k) (siW si k (isC t)) wi gr pr t' = true := by
    intro t' ht'
    have := V.gr0; have := V.gr2; have := V.wi0; have := V.wi30; have := V.pr0; have := V.pr9
    simp only [vSp, inr, Bool.and_eq_true, decide_eq_true_eq]
    exact ⟨⟨⟨⟨⟨⟨⟨by omega, by omega⟩, by omega, by omega⟩, by omega, by omega⟩, by omega, by omega⟩, by omega, by omega⟩, q1⟩, ht'⟩
  have hal0 : ∀ x : Int, ¬ x = 0 → alW x false k = x := fun x hx => by unfold alW; rw [if_neg hx]
  have hal : alW (alW al ze k) false k = alW al ze k := hal0 _ q3
  have hsw : ∀ c c' : Bool, (c' = c ∨ c = false ∧ c' = false) → siW (siW si k c) k c' = siW si k c := by
    intro c c' hc
    unfold siW
    by_cases h1 : si = 0
    · by_cases h2 : k = 2
      · simp [h1, h2]
      · cases c <;> cases c' <;> simp_all
    · simp [h1]
  rcases okType_cases V.type with rfl | ⟨b, rfl⟩
  · rw [suitT_nil] at hs
    by_cases h0 : k = 0
    · subst h0
      rw [if_pos rfl] at hs
      refine ⟨hmk _ rfl, ?_, q2, hal, hsw _ _ (.inl rfl), rfl⟩
      rw [show tyW ⟨#[]⟩ 0 = ⟨#[100]⟩ from rfl, suitT_one, if_pos rfl, hs]
      simp [kindB]
    · rw [if_neg h0] at hs
      by_cases h1 : k = 1
      · subst h1
        rw [if_pos rfl] at hs
        exact ⟨hmk _ rfl, hs, q2, hal, hsw _ _ (.inl rfl), rfl⟩
      · rw [if_neg h1] at hs
        by_cases h2 : k = 2
        · subst h2
          rw [if_pos rfl] at hs
          refine ⟨hmk _ rfl, ?_, q2, hal, hsw _ _ (.inl rfl), rfl⟩
          rw [show tyW ⟨#[]⟩ 2 = ⟨#[115]⟩ from rfl, suitT_one, if_neg (by decide), if_neg (by decide), if_pos rfl, marks_ok hs (.inl rfl)]
          rfl
        · rw [if_neg h2] at hs; cases hs
  · rw [show tyW ⟨#[b]⟩ k = ⟨#[b]⟩ from rfl]
    refine ⟨hmk _ V.type, ?_, q2, hal, hsw _ _ (.inl rfl), rfl⟩
    rw [suitT_one, Bool.and_eq_true] at hs ⊢
    refine ⟨hs.1, ?_⟩
    have hs2 := hs.2
    by_cases h0 : k = 0
    · rw [if_pos h0, Bool.and_eq_true] at hs2 ⊢
      refine ⟨hs2.1, ?_⟩
      cases hb : (b == 99)
      · rw [hb] at hs2; simpa using hs2.2
      · rw [hb] at hs2
        rw [if_pos rfl]
        rw [if_pos rfl] at hs2
        exact marks_ok hs2.2 (.inr hb)
    · rw [if_neg h0] at hs2 ⊢
      by_cases h1 : k = 1
      · rw [if_pos h1]
      · rw [if_neg h1] at hs2 ⊢
        by_cases h2 : k = 2
        · rw [if_pos h2] at hs2 ⊢
          exact marks_ok hs2 (.inl h2)
        · rw [if_neg h2] at hs2; cases hs2
end Go.Proofs.YtejganoipbblcaaGreatDoor
namespace Go.Proofs.YtejganoipbblcaaGreatDoor
open Go Go.RowKit
theorem fcB_plain {f : ByteArray} {al : Int} (ze : Bool) (hf : okFill f al = true) : fcB (fillW true f ze) false = fcB f ze := by
  rcases okFill_cases hf with rfl | ⟨b, rfl⟩
  · cases ze <;> rfl
  · rfl
theorem sgn_plain (si k : Int) (c neg : Bool) : sgnL (siW si k c) neg = sgnL si neg := by
  unfold siW
  split
  · rename_i h
    subst h
    split
    · rfl
    · split
      · rfl
      · unfold sgnL
        cases neg <;> rfl
  · rfl
theorem head_plain (si k : Int) (c neg alt : Bool) (t : List UInt8) : headL (siW si k c) neg alt t = headL si neg alt t := by
  unfold headL
  rw [sgn_plain]
theorem whole_plain (fc : UInt8) (a si k : Int) (c alt : Bool) (wi : Nat) (gr : Int) (t : List UInt8) (i : Int) : wholeL fc a (siW si k c) alt wi gr t i = wholeL fc a si alt wi gr t i := by
  unfold wholeL
  rw [head_plain]
theorem whole_d (fc : UInt8) (a si : Int) (alt : Bool) (wi : Nat) (gr i : Int) : wholeL fc a si alt wi gr [100] i = wholeL fc a si alt wi gr [] i := by
  unfold wholeL headL
  rfl
theorem fr_plain (fc : UInt8) (a si k : Int) (c alt : Bool) (wi : Nat) (gr : Int) (n : Bool) (A B T : List UInt8) : frL fc a (siW si k c) alt wi gr n A B T = frL fc a si alt wi gr n A B T := by
  unfold frL
  rw [sgn_plain]
theorem tyW_cases (t : ByteArray) (k : Int) : (t = ⟨#[]⟩ ∧ tyW t k = if k = 0 then ⟨#[100]⟩ else if k = 2 then ⟨#[115]⟩ else ⟨#[]⟩) ∨ (¬ t.size = 0 ∧ tyW t k = t) := by
  by_cases h : t.size = 0
  · exact .inl ⟨sz0 h, by unfold tyW; rw [if_pos h]⟩
  · exact .inr ⟨h, by unfold tyW; rw [if_neg h]⟩
/-- what is plain is written alike -/
theorem fv_plain {f : ByteArray} {al si : Int} {alt ze : Bool} {wi gr pr : Int} {t : ByteArray} {k : Int} (h : suitW (vSp f al si wi gr pr t) al si alt ze gr pr t k = true) (i : Int) (n : Bool) (c e : Int) (x : ByteArray) :
    fvB (fillW true f ze) (alW al ze k) (siW si k (isC t)) alt false wi gr pr (tyW t k) k i n c e x = fvB f al si alt ze wi gr pr t k i n c e x ∧
    fvW (fillW true f ze) (alW al ze k) (siW si k (isC t)) alt false wi gr pr (tyW t k) k i n c e x = fvW f al si alt ze wi gr pr t k i n c e x := by
  obtain ⟨p1, p2, _, p4, _, _⟩ := P20_ok h
  have hV : VS f al si wi gr pr t := by
    unfold suitW at h
    simp only [Bool.and_eq_true] at h
    exact vSp_open h.1
  have hty : (decide (k = 0) && ((tyW t k).data.toList == [99] && !inr i 32 126)) = (decide (k = 0) && (t.data.toList == [99] && !inr i 32 126)) := by
    rcases tyW_cases t k with ⟨rfl, e⟩ | ⟨_, e⟩
    · rw [e]
      split
      · rfl
      · split <;> rfl
    · rw [e]
  have hB : fvB (fillW true f ze) (alW al ze k) (siW si k (isC t)) alt false wi gr pr (tyW t k) k i n c e x = fvB f al si alt ze wi gr pr t k i n c e x := by
    unfold fvB
    rw [h, hty]
    unfold suitW
    rw [p1, p2]
    rfl
  refine ⟨hB, ?_⟩
  unfold fvW
  rw [hB]
  split
  · have hf := fcB_plain ze hV.fill
    unfold fvT
    by_cases k0 : k = 0
    · subst k0
      rw [if_pos rfl, if_pos rfl]
      unfold fwL
      rw [hf, p4]
      rcases tyW_cases t 0 with ⟨rfl, e⟩ | ⟨_, e⟩
      · rw [e, if_pos rfl]
        show wholeL _ _ _ _ _ _ [100] _ = wholeL _ _ _ _ _ _ [] _
        rw [whole_plain, whole_d]
      · rw [e, whole_plain]
    · rw [if_neg k0, if_neg k0]
      by_cases k1 : k = 1
      · subst k1
        rw [if_pos rfl, if_pos rfl]
        unfold frX
        rw [if_pos rfl, if_pos rfl, hf, p4]
        have ht : tyW t 1 = t := by
          rcases tyW_cases t 1 with ⟨rfl, e⟩ | ⟨_, e⟩
          · rw [e]; rfl
          · exact e
        rw [ht, fr_plain]
      · rw [if_neg k1, if_neg k1]
        unfold fmR
        have k2 : k = 2 := by
          rename_i hT
          unfold fvB at hT
          simp only [Bool.and_eq_true] at hT
          rcases kind_of hT.1 with h | h | h
          · exact absurd h k0
          · exact absurd h k1
          · exact h
        subst k2
        rw [hf, p4]
  · rfl
end Go.Proofs.YtejganoipbblcaaGreatDoor
