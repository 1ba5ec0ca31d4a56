import Derived.Test.YtebheehjhnaklaaDoorRR8
import Derived.Test.YtebheehjhnaklaaDoorRRX
namespace Go.Proofs.YtebheehjhnaklaaDoor
open Go Go.RowKit
/-- what is read of any text -/
def rrX (T : List UInt8) : Fd.D × Bool := if T.length ≤ 80 then rrL T else (Fd.D.z, false)
set_option maxRecDepth 100000 in
set_option maxHeartbeats 4000000 in
theorem ReadRealS_any (T : List UInt8) (w : World) :
    Calls Tryd.prog 4 #[.string ⟨T.toArray⟩] w fun r w' => r = .returned (.tuple #[.agg #[.bool (rrX T).1.n, .int .i64 (rrX T).1.c, .int .i64 (rrX T).1.e], .bool (rrX T).2]) ∧ Below w.heap.size w w' := by
  have zb := C3.new w (.bool false) (.int .i64 0) (.int .i64 0) 23
  have hB0 : Below w.heap.size w (w.alloc (.cells #[.bool false, .int .i64 0, .int .i64 0] 23)) := Below.alloc (Below.refl _ _) (Nat.le_refl _) _
  have zz := zb
  obtain ⟨y0, y1, y2, y3, y4, y5, y6⟩ := zz
  have hsz : (⟨T.toArray⟩ : ByteArray).size = T.length := rfl
  by_cases hl : T.length ≤ 80
  · rw [show rrX T = rrL T from if_pos hl]
    have k1 := fun W => readRealS_any T hl W
    unfold rV at k1
    generalize rrL T = F at *
    have i1 : ¬ ((80 : Int) < T.length) := by omega
    have K1 := Lib.hid k1
    clear k1
    go_enter Tryd.func4, Tryd.ntmps4
    go_wp2_with (go_at_call 7; (with_reducible refine Calls.mono (K1.out _) ?_); rintro r w1 ⟨rfl, hb⟩; replace hB0 := hB0.trans (hb.mono hB0.size); have hz := hB0.size; replace zb := C3.carry zb hb; have zz := zb; obtain ⟨y0, y1, y2, y3, y4, y5, y6⟩ := zz)
    have s0 := y0; have s1 := y1; have s2 := y2
    obtain ⟨t0, t1, t2⟩ := set3 y0 y1 y2 (.bool F.1.n) (.int .i64 F.1.c) (.int .i64 F.1.e)
    exact bodyPost_ret (v := .tuple #[.agg #[.bool F.1.n, .int .i64 F.1.c, .int .i64 F.1.e], .bool F.2]) (by simp [results, Tryd.results4, go_sem, *]) rfl ⟨rfl, (by repeat (first | with_reducible exact Below.refl _ _ | with_reducible assumption | with_reducible refine Below.setCell ?_ (by first | omega | (simp; done) | (simp <;> omega)) _ | with_reducible refine below_drewN ?_ _ | with_reducible refine Below.drew ?_ | with_reducible refine Below.alloc ?_ (by first | omega | (simp; done) | (simp <;> omega)) _))⟩
  · rw [show rrX T = (Fd.D.z, false) from if_neg hl]
    have i1 : (80 : Int) < T.length := by omega
    clear hl
    go_enter Tryd.func4, Tryd.ntmps4
    go_wp2
    exact bodyPost_ret (v := .tuple #[.agg #[.bool false, .int .i64 0, .int .i64 0], .bool false]) (by simp [results, Tryd.results4, go_sem, *]) rfl ⟨rfl, (by repeat (first | with_reducible exact Below.refl _ _ | with_reducible assumption | with_reducible refine Below.setCell ?_ (by first | omega | (simp; done) | (simp <;> omega)) _ | with_reducible refine below_drewN ?_ _ | with_reducible refine Below.drew ?_ | with_reducible refine Below.alloc ?_ (by first | omega | (simp; done) | (simp <;> omega)) _))⟩
set_option maxRecDepth 100000 in
set_option maxHeartbeats 4000000 in
theorem ReadReal_any (T : List UInt8) (w : World) (hM : HasMax w) (hE : ErV w) :
    Calls Tryd.prog 5 #[.string ⟨T.toArray⟩] w fun r w' => r = .returned (.tuple #[.agg #[.bool (rrX T).1.n, .int .i64 (rrX T).1.c, .int .i64 (rrX T).1.e], .bool (rrX T).2]) ∧ Below w.heap.size w w' := by
  by_cases hl : T.length ≤ 80
  · rw [show rrX T = rrL T from if_pos hl]
    show KRes T w (rrL T)
    have ml : (Lib.trimSuffix (cutD T) [37]).length ≤ 80 := by
      have h1 := trimS_len (cutD T)
      have h2 := cutD_le T
      omega
    have hI := ixK_any ml
    unfold rrL rrM
    cases he : eP (Lib.trimSuffix (cutD T) [37]) with
    | none => exact ReadReal_fin T _ 0 w hl hM hE (by omega) ml (fun W _ => cutPower_none _ hI he W)
    | some p =>
      obtain ⟨a, q⟩ := p
      obtain ⟨g1, b, g2, g3⟩ := eP_mem he
      have al : a.length ≤ 80 := by
        have h3 := congrArg List.length g3
        rw [List.length_append, List.length_cons] at h3
        omega
      cases hq : pwOk q
      · simp only [hq, Bool.false_eq_true, if_false]
        refine ReadReal_no T a w hl hE (fun W hW => (cutPower_some _ a q hI ml he W hW).mono ?_) al hM
        rintro r w1 ⟨⟨h1, _⟩ | ⟨_, z, rfl⟩, hb⟩
        · rw [hq] at h1; cases h1
        · exact ⟨⟨z, rfl⟩, hb⟩
      · simp only [hq, if_true]
        refine ReadReal_fin T a (pwV q) w hl hM hE (atoi_ok hq).2 al (fun W hW => (cutPower_some _ a q hI ml he W hW).mono ?_)
        rintro r w1 ⟨⟨_, rfl⟩ | ⟨h1, _⟩, hb⟩
        · exact ⟨rfl, hb⟩
        · rw [hq] at h1; cases h1
  · rw [show rrX T = (Fd.D.z, false) from if_neg hl]
    have zb := C3.new w (.bool false) (.int .i64 0) (.int .i64 0) 23
    have hB0 : Below w.heap.size w (w.alloc (.cells #[.bool false, .int .i64 0, .int .i64 0] 23)) := Below.alloc (Below.refl _ _) (Nat.le_refl _) _
    have zz := zb
    obtain ⟨y0, y1, y2, y3, y4, y5, y6⟩ := zz
    have hsz : (⟨T.toArray⟩ : ByteArray).size = T.length := rfl
    have i1 : (80 : Int) < T.length := by omega
    clear hl
    go_enter Tryd.func5, Tryd.ntmps5
    go_wp2
    exact bodyPost_ret (v := .tuple #[.agg #[.bool false, .int .i64 0, .int .i64 0], .bool false]) (by simp [results, Tryd.results5, go_sem, *]) rfl ⟨rfl, (by repeat (first | with_reducible exact Below.refl _ _ | with_reducible assumption | with_reducible refine Below.setCell ?_ (by first | omega | (simp; done) | (simp <;> omega)) _ | with_reducible refine below_drewN ?_ _ | with_reducible refine Below.drew ?_ | with_reducible refine Below.alloc ?_ (by first | omega | (simp; done) | (simp <;> omega)) _))⟩
end Go.Proofs.YtebheehjhnaklaaDoor
