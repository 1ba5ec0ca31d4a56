import Derived.Test.YtebheehjhnaklaaGreatDoorRR2
import Derived.Test.YtebheehjhnaklaaGreatDoorC7
import Derived.Test.YtebheehjhnaklaaGreatDoorE7
import Derived.Test.YtebheehjhnaklaaGreatDoorC3T
import Derived.Test.YtebheehjhnaklaaGreatDoorY4
import Derived.Test.YtebheehjhnaklaaGreatDoorX1
import Derived.Test.YtebheehjhnaklaaGreatDoorHSh
import Derived.Test.YtebheehjhnaklaaGreatDoorF3
import Derived.Lib.AtoiErrMem
namespace Go.Proofs.YtebheehjhnaklaaGreatDoor
open Go Go.RowKit
set_option maxHeartbeats 1000000 in
theorem fittedW_any (n : Bool) (c e : Int) (w : World) (h0 : 0 ≤ c) (h1 : c ≤ 2000000000000000000) (h2 : -400 ≤ e) (h3 : e ≤ 400) :
    Calls Tryz.prog 58 #[.agg #[.bool n, .int .i64 c, .int .i64 e]] w fun r w' =>
      r = .returned (.tuple #[.agg #[.bool (Fd.fit1 ⟨n, c, e⟩).1.n, .int .i64 (Fd.fit1 ⟨n, c, e⟩).1.c, .int .i64 (Fd.fit1 ⟨n, c, e⟩).1.e], .bool (Fd.fit1 ⟨n, c, e⟩).2]) ∧ Below w.heap.size w w' := by
  by_cases hz : c = 0
  · subst hz
    rw [Fd.fit_cz]
    go_enter Tryz.func58, Tryz.ntmps58
    go_wp2
    exact bodyPost_ret (v := .tuple #[.agg #[.bool false, .int .i64 0, .int .i64 0], .bool true]) (by simp [results, Tryz.results58, go_sem]) rfl ⟨rfl, ((Below.refl _ _).alloc (Nat.le_refl _) _).alloc (by simp) _⟩
  · have hzb : (c == 0) = false := by simpa using hz
    go_enter Tryz.func58, Tryz.ntmps58
    go_wp2
    go_loopg [16] (12 - e).toNat (fun g _ wr => ∃ c' e' : Int, wr = (w.alloc (.cells #[.bool n, .int .i64 c', .int .i64 e'] 24)).alloc (.cells #[.bool false, .int .i64 0, .int .i64 0] 24) ∧ 0 < c' ∧ c' ≤ c ∧ e ≤ e' ∧ (e' ≤ 400) ∧ g = (12 - e').toNat ∧ Aside (Fd.strip1 c' e' = Fd.strip1 c e))
    case atStart => exact ⟨c, e, rfl, by omega, by omega, by omega, by omega, rfl, rfl⟩
    case round =>
      obtain ⟨c', e', rfl, r1, r2, r3, r4, rfl, r5⟩ := hrel
      by_cases hgo : e' < 12 ∧ c' % 10 = 0
      · obtain ⟨g1, g2⟩ := hgo
        have g2b : (c' % 10 == 0) = true := by simpa using g2
        have G2 := Lib.hid g2
        clear g2
        go_wp2
        go_roundg (12 - (e' + 1)).toNat
        case measure => omega
        case rel => exact ⟨c' / 10, e' + 1, rfl, by have := G2.out; omega, by omega, by omega, by omega, rfl, by rw [← r5.out, ← Fd.strip1_yes r1 g1 G2.out]; exact rfl⟩
      · have R5 : Aside (Fd.strip1 c e = (c', e')) := by rw [← r5.out, Fd.strip1_no (by omega)]; exact rfl
        have hcase : (e' < 12 ∧ (c' % 10 == 0) = false) ∨ 12 ≤ e' := by
          by_cases g1 : e' < 12
          · left; exact ⟨g1, by simp; omega⟩
          · right; omega
        clear hgo r5
        rcases hcase with ⟨g1, g2b⟩ | g1
        all_goals
          go_wp2
          go_loopg [32] e'.toNat (fun g _ wr => ∃ c2 e2 : Int, wr = (w.alloc (.cells #[.bool n, .int .i64 c2, .int .i64 e2] 24)).alloc (.cells #[.bool false, .int .i64 0, .int .i64 0] 24) ∧ 0 < c2 ∧ c2 ≤ 2000000000000000000 ∧ -400 ≤ e2 ∧ e2 ≤ 400 ∧ g = e2.toNat ∧ Aside (Fd.grow1 c2 e2 = Fd.grow1 c' e'))
          case atStart => exact ⟨c', e', rfl, by omega, by omega, by omega, by omega, rfl, rfl⟩
          case round =>
            obtain ⟨c2, e2, rfl, q1, q2, q3, q4, rfl, q5⟩ := hrel
            by_cases hgo : 12 < e2 ∧ c2 ≤ 999999999
            · obtain ⟨g3, g4⟩ := hgo
              go_wp2
              go_roundg (e2 - 1).toNat
              case measure => omega
              case rel => exact ⟨c2 * 10, e2 - 1, rfl, by omega, by omega, by omega, by omega, rfl, by rw [← q5.out, ← Fd.grow1_yes g3 g4]; exact rfl⟩
            · have Q5 := Lib.hid (Fd.fit1_of (n := n) hz R5.out (q5.out.symm.trans (Fd.grow1_no hgo)))
              clear q5
              have hcase : (12 < e2 ∧ 999999999 < c2) ∨ e2 ≤ 12 := by omega
              clear hgo
              have HV : (Fd.vld ⟨n, c2, e2⟩ = false ∧ Hid (Fd.fit1 ⟨n, c, e⟩ = (Fd.D.z, false))) ∨ (Fd.vld ⟨n, c2, e2⟩ = true ∧ Hid (Fd.fit1 ⟨n, c, e⟩ = (⟨n, c2, e2⟩, true))) := by
                cases hv : Fd.vld ⟨n, c2, e2⟩
                · left; exact ⟨rfl, Lib.hid (by rw [Q5.out, hv]; rfl)⟩
                · right; exact ⟨rfl, Lib.hid (by rw [Q5.out, hv]; rfl)⟩
              rcases HV with ⟨hv, HV⟩ | ⟨hv, HV⟩
              · rcases hcase with ⟨g3, g4⟩ | g3
                all_goals
                  go_wp2_with (go_at_call 59; refine (valid_any _ _ _ _).mono ?_; rintro r w1 ⟨rfl, hb⟩; obtain ⟨hc, hf⟩ := bcell hb)
                  exact bodyPost_ret (v := .tuple #[.agg #[.bool false, .int .i64 0, .int .i64 0], .bool false]) (by simp [results, Tryz.results58, go_sem, hc]) rfl
                    ⟨by rw [HV.out]; rfl, (((((Below.refl _ _).alloc (Nat.le_refl _) _).alloc (by simp) _).trans (hb.mono (by simp; omega))).setCell (by simp) _ |>.setCell (by simp) _).setCell (by simp) _⟩
              · rcases hcase with ⟨g3, g4⟩ | g3
                all_goals
                  go_wp2_with (go_at_call 59; refine (valid_any _ _ _ _).mono ?_; rintro r w1 ⟨rfl, hb⟩; obtain ⟨hc, hf⟩ := bcell hb)
                  exact bodyPost_ret (v := .tuple #[.agg #[.bool n, .int .i64 c2, .int .i64 e2], .bool true]) (by simp [results, Tryz.results58, go_sem, hc]) rfl
                    ⟨by rw [HV.out], (((((Below.refl _ _).alloc (Nat.le_refl _) _).alloc (by simp) _).trans (hb.mono (by simp; omega))).setCell (by simp) _ |>.setCell (by simp) _).setCell (by simp) _⟩
end Go.Proofs.YtebheehjhnaklaaGreatDoor
namespace Go.Proofs.YtebheehjhnaklaaGreatDoor
open Go Go.RowKit
/-- the two sentinels of strconv hold errors -/
def ErV (w : World) : Prop := (∃ t p, w.cell? ⟨1, 0, none⟩ = some (.iface t p)) ∧ (∃ t p, w.cell? ⟨2, 0, none⟩ = some (.iface t p))
theorem ErV.on {w w1 : World} (h : ErV w) (hb : Below w.heap.size w w1) : ErV w1 := by
  obtain ⟨⟨t, p, h1⟩, t2, p2, h2⟩ := h
  exact ⟨⟨t, p, (hb.cell (World.block_lt_of_cell? _ _ h1)).trans h1⟩, t2, p2, (hb.cell (World.block_lt_of_cell? _ _ h2)).trans h2⟩
theorem Atoi_ok (r : List UInt8) (hl : r.length ≤ 80) (h : pwOk r = true) (w : World) :
    Calls Tryz.prog 103 #[.string ⟨r.toArray⟩] w fun e w' => e = .returned (.tuple #[.int .i64 (pwV r), .nilIface]) ∧ Below w.heap.size w w' := by
  have k := Tryz.strconv_Atoi_ok ⟨r.toArray⟩ (by show r.length ≤ _; omega) (pwV r) (atoi_ok h).1 w
  refine k.mono ?_
  rintro e w' ⟨rfl, rfl | ⟨t, rfl⟩⟩
  · exact ⟨rfl, Below.refl _ _⟩
  · exact ⟨rfl, Lib.bytesWorld_below _ _ _⟩
theorem Atoi_no (r : List UInt8) (hl : r.length ≤ 80) (h : pwOk r = false) (w : World) (hE : ErV w) :
    Calls Tryz.prog 103 #[.string ⟨r.toArray⟩] w fun e w' => (∃ q, (e = .returned (.tuple #[.int .i64 q, .nilIface]) ∧ (q < -99 ∨ 99 < q)) ∨ ∃ t p, e = .returned (.tuple #[.int .i64 q, .iface t p])) ∧ Below w.heap.size w w' := by
  obtain ⟨⟨t1, p1, h1⟩, t2, p2, h2⟩ := hE
  rcases atoi_no h with h0 | h0 | ⟨v, h0, hv⟩
  · refine (Tryz.strconv_Atoi_syntax ⟨r.toArray⟩ (by show r.length ≤ _; omega) h0 (.iface t1 p1) w h1 (.inr ⟨t1, p1, rfl⟩)).mono ?_
    rintro e w' ⟨N, rfl, _, _, hb⟩
    exact ⟨⟨0, .inr ⟨_, _, rfl⟩⟩, hb⟩
  · refine (Tryz.strconv_Atoi_range ⟨r.toArray⟩ (by show r.length ≤ _; omega) h0 (.iface t2 p2) w h2 (.inr ⟨t2, p2, rfl⟩)).mono ?_
    rintro e w' ⟨N, rfl, _, _, hb⟩
    exact ⟨⟨_, .inr ⟨_, _, rfl⟩⟩, hb⟩
  · refine (Tryz.strconv_Atoi_ok ⟨r.toArray⟩ (by show r.length ≤ _; omega) v h0 w).mono ?_
    rintro e w' ⟨rfl, rfl | ⟨t, rfl⟩⟩
    · exact ⟨⟨v, .inl ⟨rfl, hv⟩⟩, Below.refl _ _⟩
    · exact ⟨⟨v, .inl ⟨rfl, hv⟩⟩, Lib.bytesWorld_below _ _ _⟩
/-- strings.IndexAny at a text, for e and E -/
def IxK (T : List UInt8) : Prop := ∀ W, Calls Tryz.prog 102 #[.string ⟨T.toArray⟩, .string ⟨#[101, 69]⟩] W fun r w' => r = .returned (.int .i64 (Lib.indexAny T [101, 69])) ∧ Below W.heap.size W w'
theorem cutPower_none (T : List UInt8) (hI : IxK T) (h : eP T = none) (w : World) :
    Calls Tryz.prog 54 #[.string ⟨T.toArray⟩] w fun r w' => r = .returned (.tuple #[.string ⟨T.toArray⟩, .int .i64 0, .bool true]) ∧ Below w.heap.size w w' := by
  have hB := Below.refl w.heap.size w
  have k1 := hI
  unfold IxK at k1
  rcases eP_any T with ⟨_, h2⟩ | ⟨k, _, _, h2⟩
  · rw [h2] at k1
    have K1 := Lib.hid k1
    clear k1 hI
    go_enter Tryz.func54, Tryz.ntmps54
    go_wp2_with (go_at_call 102; (with_reducible refine Calls.mono (K1.out _) ?_); rintro r w1 ⟨rfl, hb⟩; replace hB := hB.trans (hb.mono hB.size))
    exact bodyPost_ret (v := .tuple #[.string ⟨T.toArray⟩, .int .i64 0, .bool true]) (by simp [results, Tryz.results54, go_sem, *]) rfl ⟨rfl, hB⟩
  · rw [h] at h2; cases h2
set_option maxHeartbeats 2000000 in
theorem cutPower_some (T a q : List UInt8) (hI : IxK T) (hl : T.length ≤ 80) (h : eP T = some (a, q)) (w : World) (hE : ErV w) :
    Calls Tryz.prog 54 #[.string ⟨T.toArray⟩] w fun r w' => ((pwOk q = true ∧ r = .returned (.tuple #[.string ⟨a.toArray⟩, .int .i64 (pwV q), .bool true])) ∨ (pwOk q = false ∧ ∃ z, r = .returned (.tuple #[.string ⟨a.toArray⟩, .int .i64 z, .bool false]))) ∧ Below w.heap.size w w' := by
  have hB := Below.refl w.heap.size w
  have k1 := hI
  unfold IxK at k1
  rcases eP_any T with ⟨h2, _⟩ | ⟨k, hk, h1, h2⟩
  · rw [h] at h2; cases h2
  · rw [h] at h2
    obtain ⟨rfl, rfl⟩ : a = T.take k ∧ q = T.drop (k + 1) := by simpa using h2
    rw [h1] at k1
    have e1 := ext_take k T
    have e2 := ext_drop (k + 1) T
    have hq : (T.drop (k + 1)).length ≤ 80 := by rw [List.length_drop]; omega
    have k2 := fun h W => Atoi_ok (T.drop (k + 1)) hq h W
    have k3 := fun h W hE => Atoi_no (T.drop (k + 1)) hq h W hE
    have hv := fun h => (atoi_ok (r := T.drop (k + 1)) h).2
    have i1 : (k : Int) + 1 ≤ T.length := by omega
    have i2 : (k : Int) ≤ T.length := by omega
    have i3 : (⟨T.toArray⟩ : ByteArray).size = T.length := rfl
    clear h h2 hI hq
    generalize T.take k = a at *
    generalize T.drop (k + 1) = q at *
    cases hp : pwOk q
    · have k3' := k3 hp
      have K1 := Lib.hid k1; have K3 := Lib.hid k3'
      clear k1 k2 k3 k3' hv hp
      have kw := fun x W => within_any x (-99) 99 W
      have KW := Lib.hid kw
      clear kw
      go_enter Tryz.func54, Tryz.ntmps54
      go_wp2_with (first | (go_at_call 102; (with_reducible refine Calls.mono (K1.out _) ?_); rintro r w1 ⟨rfl, hb⟩; replace hB := hB.trans (hb.mono hB.size)) | (go_at_call 103; (with_reducible refine Calls.mono (K3.out _ (hE.on hB)) ?_); rintro r w2 ⟨⟨z, hzz⟩, hb⟩; replace hB := hB.trans (hb.mono hB.size); rcases hzz with ⟨rfl, hz⟩ | ⟨tt, pp, rfl⟩))
      · have hin : inr z (-99) 99 = false := by simp [inr]; omega
        refine wp_region_since (by kernel_rfl) (by kernel_rfl) ?_
        repeat (quiet_step (first | (go_at_call 44; with_reducible exact Calls.since_of (mBn (KW.out _ _)))))
        refine wpQuiet_nil ?_
        intro w_ hw_
        obtain ⟨⟨w9, hb⟩, hw2⟩ := hw_
        have hw3 : w9 = w_ := hw2.symm
        clear hw2
        subst hw3
        replace hB := hB.trans (hb.mono hB.size)
        go_wp2
        exact bodyPost_ret (v := .tuple #[.string ⟨a.toArray⟩, .int .i64 z, .bool false]) (by simp [results, Tryz.results54, go_sem, *]) rfl ⟨.inr ⟨by first | trivial | rfl, z, rfl⟩, hB⟩
      · skip
        refine wp_region_since (by kernel_rfl) (by kernel_rfl) ?_
        repeat (quiet_step (first | (go_at_call 44; with_reducible exact Calls.since_of (mBn (KW.out _ _)))))
        refine wpQuiet_nil ?_
        intro w_ hw_
        obtain ⟨⟨w9, hb⟩, hw2⟩ := hw_
        have hw3 : w9 = w_ := hw2.symm
        clear hw2
        subst hw3
        replace hB := hB.trans (hb.mono hB.size)
        go_wp2
        exact bodyPost_ret (v := .tuple #[.string ⟨a.toArray⟩, .int .i64 z, .bool false]) (by simp [results, Tryz.results54, go_sem, *]) rfl ⟨.inr ⟨by first | trivial | rfl, z, rfl⟩, hB⟩
    · have k2' := k2 hp
      have hv' := hv hp
      have K1 := Lib.hid k1; have K2 := Lib.hid k2'
      clear k1 k2 k3 k2' hv
      have kw := fun x W => within_any x (-99) 99 W
      have KW := Lib.hid kw
      clear kw
      go_enter Tryz.func54, Tryz.ntmps54
      go_wp2_with (first | (go_at_call 102; (with_reducible refine Calls.mono (K1.out _) ?_); rintro r w1 ⟨rfl, hb⟩; replace hB := hB.trans (hb.mono hB.size)) | (go_at_call 103; (with_reducible refine Calls.mono (K2.out _) ?_); rintro r w2 ⟨rfl, hb⟩; replace hB := hB.trans (hb.mono hB.size)))
      have hin : inr (pwV q) (-99) 99 = true := by simp [inr]; omega
      refine wp_region_since (by kernel_rfl) (by kernel_rfl) ?_
      repeat (quiet_step (first | (go_at_call 44; with_reducible exact Calls.since_of (mBn (KW.out _ _)))))
      refine wpQuiet_nil ?_
      intro w_ hw_
      obtain ⟨⟨w9, hb⟩, hw2⟩ := hw_
      have hw3 : w9 = w_ := hw2.symm
      clear hw2
      subst hw3
      replace hB := hB.trans (hb.mono hB.size)
      go_wp2
      exact bodyPost_ret (v := .tuple #[.string ⟨a.toArray⟩, .int .i64 (pwV q), .bool true]) (by simp [results, Tryz.results54, go_sem, *]) rfl ⟨.inl ⟨by first | trivial | rfl, rfl⟩, hB⟩
/-- strings.Cut at a point -/
theorem Cut_any (a : List UInt8) (hl : a.length ≤ 80) : ∃ f, ∀ W, HasMax W →
    Calls Tryz.prog 55 #[.string ⟨a.toArray⟩, .string ⟨#[46]⟩] W fun r w' => r = .returned (.tuple #[.string ⟨(ptA a).toArray⟩, .string ⟨(ptB a).toArray⟩, .bool f]) ∧ Below W.heap.size W w' := by
  refine ⟨(Lib.cut a [46]).2.2, fun W hM => ?_⟩
  obtain ⟨_, m, hm⟩ := hM
  have k := Tryz.strings_Cut ⟨a.toArray⟩ ⟨#[46]⟩ m W (by show a.length < _; omega) hm
  obtain ⟨e1, e2⟩ := cut_46 a
  refine k.mono ?_
  rintro r w1 ⟨rfl, n, rfl⟩
  refine ⟨?_, below_drewN (Below.refl _ _) _⟩
  show Ending.returned (Value.tuple #[.string ⟨(Lib.cut a [46]).1.toArray⟩, .string ⟨(Lib.cut a [46]).2.1.toArray⟩, .bool (Lib.cut a [46]).2.2]) = _
  rw [e1, e2]
theorem CutSuffix_any (l : List UInt8) (hl : l.length ≤ 80) (W : World) :
    Calls Tryz.prog 53 #[.string ⟨l.toArray⟩, .string ⟨#[37]⟩] W fun r w' => r = .returned (.tuple #[.string ⟨(Lib.trimSuffix l [37]).toArray⟩, .bool (Lib.hasSuffix l [37])]) ∧ W = w' := by
  have k := Tryz.strings_CutSuffix ⟨l.toArray⟩ ⟨#[37]⟩ W (by show l.length ≤ _; omega)
  refine k.mono ?_
  rintro r w1 ⟨rfl, rfl⟩
  exact ⟨rfl, rfl⟩
theorem cutD_le (l : List UInt8) : (cutD l).length ≤ l.length := by
  unfold cutD
  match l with
  | [] => exact Nat.le_refl _
  | c :: r => simp only; split <;> simp
theorem trimS_len (l : List UInt8) : (Lib.trimSuffix l [37]).length ≤ l.length := by
  unfold Lib.trimSuffix
  split
  · rw [List.length_take]; omega
  · exact Nat.le_refl _
/-- what the program reads -/
def rrL (l : List UInt8) : Fd.D × Bool := rrM (cutN l) (Lib.hasSuffix (cutD l) [37]) (Lib.trimSuffix (cutD l) [37])
def rV (F : Fd.D × Bool) : Value := .tuple #[.agg #[.bool F.1.n, .int .i64 F.1.c, .int .i64 F.1.e], .bool F.2]
def KRes (l : List UInt8) (w : World) (F : Fd.D × Bool) : Prop := Calls Tryz.prog 13 #[.string ⟨l.toArray⟩] w fun r w' => r = .returned (rV F) ∧ Below w.heap.size w w'
set_option maxRecDepth 100000 in
set_option maxHeartbeats 8000000 in
/-- the power cannot be read -/
theorem ReadReal_no (l a : List UInt8) (w : World) (hl : l.length ≤ 80) (hE : ErV w)
    (kc : ∀ W, ErV W → Calls Tryz.prog 54 #[.string ⟨(Lib.trimSuffix (cutD l) [37]).toArray⟩] W fun r w' => (∃ z, r = .returned (.tuple #[.string ⟨a.toArray⟩, .int .i64 z, .bool false])) ∧ Below W.heap.size W w')
    (ha : a.length ≤ 80) (hM : HasMax w) : KRes l w (Fd.D.z, false) := by
  unfold KRes
  have zb := C3.new w (.bool false) (.int .i64 0) (.int .i64 0) 24
  have hB0 : Below w.heap.size w (w.alloc (.cells #[.bool false, .int .i64 0, .int .i64 0] 24)) := Below.alloc (Below.refl _ _) (Nat.le_refl _) _
  have zz := zb
  obtain ⟨y0, y1, y2, y3, y4, y5, y6⟩ := zz
  have k1 := fun W => cutSign_any l hl W
  have k2 := fun W => CutSuffix_any (cutD l) (by have := cutD_le l; omega) W
  obtain ⟨f, k4⟩ := Cut_any a ha
  have hpl := pt_len a
  have c1 := cat_lN (ptA a) (ptB a)
  have q1 : ¬ (9223372036854775807 < (ptA a).length + (ptB a).length) := by omega
  generalize Lib.trimSuffix (cutD l) [37] = m at *
  generalize Lib.hasSuffix (cutD l) [37] = hh at *
  generalize cutD l = dl at *
  generalize cutN l = nn at *
  generalize ptA a = A at *
  generalize ptB a = B at *
  have K1 := Lib.hid k1; have K2 := Lib.hid k2; have K3 := Lib.hid kc; have K4 := Lib.hid k4
  clear k1 k2 kc k4
  go_enter Tryz.func13, Tryz.ntmps13
  go_wp2_with (first | (go_at_call 52; (with_reducible refine Calls.mono (K1.out _) ?_); rintro r w1 ⟨rfl, hb⟩; replace hB0 := hB0.trans (hb.mono hB0.size); have hz := hB0.size; replace zb := C3.carry zb hb; have zz := zb; obtain ⟨y0, y1, y2, y3, y4, y5, y6⟩ := zz) | (go_at_call 53; (with_reducible refine Calls.mono (K2.out _) ?_); rintro r w1 ⟨rfl, rfl⟩) | (go_at_call 54; (with_reducible refine Calls.mono (K3.out _ (hE.on hB0)) ?_); rintro r w1 ⟨⟨zq, rfl⟩, hb⟩; replace hB0 := hB0.trans (hb.mono hB0.size); have hz := hB0.size; replace zb := C3.carry zb hb; have zz := zb; obtain ⟨y0, y1, y2, y3, y4, y5, y6⟩ := zz) | (go_at_call 55; (with_reducible refine Calls.mono (K4.out _ (hM.on hB0)) ?_); rintro r w1 ⟨rfl, hb⟩; replace hB0 := hB0.trans (hb.mono hB0.size); have hz := hB0.size; replace zb := C3.carry zb hb; have zz := zb; obtain ⟨y0, y1, y2, y3, y4, y5, y6⟩ := zz))
  all_goals exact bodyPost_ret (v := .tuple #[.agg #[.bool false, .int .i64 0, .int .i64 0], .bool false]) (by simp [results, Tryz.results13, go_sem, *]) rfl ⟨rfl, (by repeat (first | with_reducible exact Below.refl _ _ | with_reducible assumption | with_reducible refine Below.setCell ?_ (by first | omega | (simp; done) | (simp <;> omega)) _ | with_reducible refine below_drewN ?_ _ | with_reducible refine Below.drew ?_ | with_reducible refine Below.alloc ?_ (by first | omega | (simp; done) | (simp <;> omega)) _))⟩
set_option maxRecDepth 100000 in
set_option maxHeartbeats 8000000 in
/-- the power is read -/
theorem ReadReal_fin (l a : List UInt8) (p : Int) (w : World) (hl : l.length ≤ 80) (hM : HasMax w) (hE : ErV w) (hp : -99 ≤ p ∧ p ≤ 99) (ha : a.length ≤ 80)
    (kc : ∀ W, ErV W → Calls Tryz.prog 54 #[.string ⟨(Lib.trimSuffix (cutD l) [37]).toArray⟩] W fun r w' => r = .returned (.tuple #[.string ⟨a.toArray⟩, .int .i64 p, .bool true]) ∧ Below W.heap.size W w') :
    KRes l w (rrFin (cutN l) (Lib.hasSuffix (cutD l) [37]) a p) := by
  unfold KRes
  have zb := C3.new w (.bool false) (.int .i64 0) (.int .i64 0) 24
  have hB0 : Below w.heap.size w (w.alloc (.cells #[.bool false, .int .i64 0, .int .i64 0] 24)) := Below.alloc (Below.refl _ _) (Nat.le_refl _) _
  have zz := zb
  obtain ⟨y0, y1, y2, y3, y4, y5, y6⟩ := zz
  have k1 := fun W => cutSign_any l hl W
  have k2 := fun W => CutSuffix_any (cutD l) (by have := cutD_le l; omega) W
  obtain ⟨f, k4⟩ := Cut_any a ha
  have hpl := pt_len a
  have c1 := cat_lN (ptA a) (ptB a)
  have q1 : ¬ (9223372036854775807 < (ptA a).length + (ptB a).length) := by omega
  have rl := trR_len 48 (ptA a ++ ptB a)
  rw [List.length_append] at rl
  have k5 := fun W => TrimRight_one ⟨(ptA a ++ ptB a).toArray⟩ 48 (by decide) (by show (ptA a ++ ptB a).length ≤ _; rw [List.length_append]; omega) W
  rw [show trRB 48 ⟨(ptA a ++ ptB a).toArray⟩ = ⟨(trR 48 (ptA a ++ ptB a)).toArray⟩ from rfl] at k5
  have k6 := fun W => ValueIn_any ⟨(48 :: trR 48 (ptA a ++ ptB a)).toArray⟩ 10 (by show (48 :: trR 48 (ptA a ++ ptB a)).length ≤ _; rw [List.length_cons]; omega) W
  rw [show valW ⟨(48 :: trR 48 (ptA a ++ ptB a)).toArray⟩ 10 = vRun 10 (48 :: trR 48 (ptA a ++ ptB a)) 0 from rfl] at k6
  have hv := vRun_rng (48 :: trR 48 (ptA a ++ ptB a)) 0 (by omega) (by omega)
  have c2 := cat_lN [48] (trR 48 (ptA a ++ ptB a))
  have q2 : ¬ (9223372036854775807 < 1 + (trR 48 (ptA a ++ ptB a)).length) := by omega
  have q3 : ¬ (9223372036854775807 < (trR 48 (ptA a ++ ptB a)).length + 1) := by omega
  have hnn := cutN l
  unfold rrFin
  by_cases hD : ptA a ++ ptB a = []
  · rw [if_pos hD]
    have hA0 : ptA a = [] := (List.append_eq_nil_iff.1 hD).1
    have hB1 : ptB a = [] := (List.append_eq_nil_iff.1 hD).2
    rw [hA0, hB1] at k4
    have c0 : (⟨#[]⟩ : ByteArray) ++ ⟨#[]⟩ = ⟨#[]⟩ := by apply ByteArray.ext; rw [ByteArray.data_append]; rfl
    clear k5 k6 hv c2 q2 q3 rl c1 q1 hpl hD hA0 hB1
    generalize Lib.trimSuffix (cutD l) [37] = m at *
    generalize Lib.hasSuffix (cutD l) [37] = hh at *
    generalize cutD l = dl at *
    generalize cutN l = nn at *
    have K1 := Lib.hid k1; have K2 := Lib.hid k2; have K3 := Lib.hid kc; have K4 := Lib.hid k4
    clear k1 k2 kc k4
    go_enter Tryz.func13, Tryz.ntmps13
    go_wp2_with (first | (go_at_call 52; (with_reducible refine Calls.mono (K1.out _) ?_); rintro r w1 ⟨rfl, hb⟩; replace hB0 := hB0.trans (hb.mono hB0.size); have hz := hB0.size; replace zb := C3.carry zb hb; have zz := zb; obtain ⟨y0, y1, y2, y3, y4, y5, y6⟩ := zz) | (go_at_call 53; (with_reducible refine Calls.mono (K2.out _) ?_); rintro r w1 ⟨rfl, rfl⟩) | (go_at_call 54; (with_reducible refine Calls.mono (K3.out _ (hE.on hB0)) ?_); rintro r w1 ⟨rfl, hb⟩; replace hB0 := hB0.trans (hb.mono hB0.size); have hz := hB0.size; replace zb := C3.carry zb hb; have zz := zb; obtain ⟨y0, y1, y2, y3, y4, y5, y6⟩ := zz) | (go_at_call 55; (with_reducible refine Calls.mono (K4.out _ (hM.on hB0)) ?_); rintro r w1 ⟨rfl, hb⟩; replace hB0 := hB0.trans (hb.mono hB0.size); have hz := hB0.size; replace zb := C3.carry zb hb; have zz := zb; obtain ⟨y0, y1, y2, y3, y4, y5, y6⟩ := zz))
    all_goals exact bodyPost_ret (v := .tuple #[.agg #[.bool false, .int .i64 0, .int .i64 0], .bool false]) (by simp [results, Tryz.results13, go_sem, *]) rfl ⟨rfl, (by repeat (first | with_reducible exact Below.refl _ _ | with_reducible assumption | with_reducible refine Below.setCell ?_ (by first | omega | (simp; done) | (simp <;> omega)) _ | with_reducible refine below_drewN ?_ _ | with_reducible refine Below.drew ?_ | with_reducible refine Below.alloc ?_ (by first | omega | (simp; done) | (simp <;> omega)) _))⟩
  · rw [if_neg hD]
    have q0 : (ptA a ++ ptB a).isEmpty = false := by rw [List.isEmpty_eq_false_iff]; exact hD
    have hx : ((ptA a ++ ptB a).length : Int) = (ptA a).length + (ptB a).length := by rw [List.length_append]; omega
    clear hD
    by_cases hv0 : vRun 10 (48 :: trR 48 (ptA a ++ ptB a)) 0 < 0
    · rw [if_pos hv0]
      generalize vRun 10 (48 :: trR 48 (ptA a ++ ptB a)) 0 = v at *
      generalize trR 48 (ptA a ++ ptB a) = R at *
      generalize Lib.trimSuffix (cutD l) [37] = m at *
      generalize Lib.hasSuffix (cutD l) [37] = hh at *
      generalize cutD l = dl at *
      generalize cutN l = nn at *
      clear hx
      generalize ptA a = A at *
      generalize ptB a = B at *
      have K1 := Lib.hid k1; have K2 := Lib.hid k2; have K3 := Lib.hid kc; have K4 := Lib.hid k4; have K5 := Lib.hid k5; have K6 := Lib.hid k6
      clear k1 k2 kc k4 k5 k6
      go_enter Tryz.func13, Tryz.ntmps13
      go_wp2_with (first | (go_at_call 52; (with_reducible refine Calls.mono (K1.out _) ?_); rintro r w1 ⟨rfl, hb⟩; replace hB0 := hB0.trans (hb.mono hB0.size); have hz := hB0.size; replace zb := C3.carry zb hb; have zz := zb; obtain ⟨y0, y1, y2, y3, y4, y5, y6⟩ := zz) | (go_at_call 53; (with_reducible refine Calls.mono (K2.out _) ?_); rintro r w1 ⟨rfl, rfl⟩) | (go_at_call 54; (with_reducible refine Calls.mono (K3.out _ (hE.on hB0)) ?_); rintro r w1 ⟨rfl, hb⟩; replace hB0 := hB0.trans (hb.mono hB0.size); have hz := hB0.size; replace zb := C3.carry zb hb; have zz := zb; obtain ⟨y0, y1, y2, y3, y4, y5, y6⟩ := zz) | (go_at_call 55; (with_reducible refine Calls.mono (K4.out _ (hM.on hB0)) ?_); rintro r w1 ⟨rfl, hb⟩; replace hB0 := hB0.trans (hb.mono hB0.size); have hz := hB0.size; replace zb := C3.carry zb hb; have zz := zb; obtain ⟨y0, y1, y2, y3, y4, y5, y6⟩ := zz) | (go_at_call 56; (with_reducible refine Calls.mono (K5.out _) ?_); rintro r w1 ⟨rfl, rfl⟩) | (go_at_call 57; (with_reducible refine Calls.mono (K6.out _) ?_); rintro r w1 ⟨rfl, rfl⟩))
      all_goals exact bodyPost_ret (v := .tuple #[.agg #[.bool false, .int .i64 0, .int .i64 0], .bool false]) (by simp [results, Tryz.results13, go_sem, *]) rfl ⟨rfl, (by repeat (first | with_reducible exact Below.refl _ _ | with_reducible assumption | with_reducible refine Below.setCell ?_ (by first | omega | (simp; done) | (simp <;> omega)) _ | with_reducible refine below_drewN ?_ _ | with_reducible refine Below.drew ?_ | with_reducible refine Below.alloc ?_ (by first | omega | (simp; done) | (simp <;> omega)) _))⟩
    · rw [if_neg hv0]
      have v0 : 0 ≤ vRun 10 (48 :: trR 48 (ptA a ++ ptB a)) 0 := by omega
      have v1 := hv.2
      generalize vRun 10 (48 :: trR 48 (ptA a ++ ptB a)) 0 = v at *
      generalize trR 48 (ptA a ++ ptB a) = R at *
      generalize Lib.trimSuffix (cutD l) [37] = m at *
      generalize cutD l = dl at *
      generalize cutN l = nn at *
      rw [hx]
      clear hx
      generalize ptA a = A at *
      generalize ptB a = B at *
      generalize Lib.hasSuffix dl [37] = hh at *
      cases hh
      · simp only [Bool.false_eq_true, if_false, Int.sub_zero]
        have k7 := fun W => fittedW_any nn v (p + ((A.length : Int) + B.length) - R.length - B.length) W v0 (by omega) (by omega) (by omega)
        generalize hF : Fd.fit1 ⟨nn, v, p + ((A.length : Int) + B.length) - R.length - B.length⟩ = F at *
        rw [show p + ((A.length : Int) + B.length) - R.length - B.length = p + ((A.length : Int) + B.length - R.length - B.length) by omega] at k7
        have K1 := Lib.hid k1; have K2 := Lib.hid k2; have K3 := Lib.hid kc; have K4 := Lib.hid k4; have K5 := Lib.hid k5; have K6 := Lib.hid k6; have K7 := Lib.hid k7
        clear k1 k2 kc k4 k5 k6 k7 hF
        go_enter Tryz.func13, Tryz.ntmps13
        go_wp2_with (first | (go_at_call 52; (with_reducible refine Calls.mono (K1.out _) ?_); rintro r w1 ⟨rfl, hb⟩; replace hB0 := hB0.trans (hb.mono hB0.size); have hz := hB0.size; replace zb := C3.carry zb hb; have zz := zb; obtain ⟨y0, y1, y2, y3, y4, y5, y6⟩ := zz) | (go_at_call 53; (with_reducible refine Calls.mono (K2.out _) ?_); rintro r w1 ⟨rfl, rfl⟩) | (go_at_call 54; (with_reducible refine Calls.mono (K3.out _ (hE.on hB0)) ?_); rintro r w1 ⟨rfl, hb⟩; replace hB0 := hB0.trans (hb.mono hB0.size); have hz := hB0.size; replace zb := C3.carry zb hb; have zz := zb; obtain ⟨y0, y1, y2, y3, y4, y5, y6⟩ := zz) | (go_at_call 55; (with_reducible refine Calls.mono (K4.out _ (hM.on hB0)) ?_); rintro r w1 ⟨rfl, hb⟩; replace hB0 := hB0.trans (hb.mono hB0.size); have hz := hB0.size; replace zb := C3.carry zb hb; have zz := zb; obtain ⟨y0, y1, y2, y3, y4, y5, y6⟩ := zz) | (go_at_call 56; (with_reducible refine Calls.mono (K5.out _) ?_); rintro r w1 ⟨rfl, rfl⟩) | (go_at_call 57; (with_reducible refine Calls.mono (K6.out _) ?_); rintro r w1 ⟨rfl, rfl⟩) | (go_at_call 58; (with_reducible refine Calls.mono (K7.out _) ?_); rintro r w1 ⟨rfl, hb⟩; replace hB0 := hB0.trans (hb.mono hB0.size); have hz := hB0.size; replace zb := C3.carry zb hb; have zz := zb; obtain ⟨y0, y1, y2, y3, y4, y5, y6⟩ := zz))
        have s0 := y0; have s1 := y1; have s2 := y2
        obtain ⟨t0, t1, t2⟩ := set3 y0 y1 y2 (.bool F.1.n) (.int .i64 F.1.c) (.int .i64 F.1.e)
        exact bodyPost_ret (v := .tuple #[.agg #[.bool F.1.n, .int .i64 F.1.c, .int .i64 F.1.e], .bool F.2]) (by simp [results, Tryz.results13, go_sem, *]) rfl ⟨rfl, (by repeat (first | with_reducible exact Below.refl _ _ | with_reducible assumption | with_reducible refine Below.setCell ?_ (by first | omega | (simp; done) | (simp <;> omega)) _ | with_reducible refine below_drewN ?_ _ | with_reducible refine Below.drew ?_ | with_reducible refine Below.alloc ?_ (by first | omega | (simp; done) | (simp <;> omega)) _))⟩
      · simp only [if_true]
        have k7 := fun W => fittedW_any nn v (p + ((A.length : Int) + B.length) - R.length - B.length - 2) W v0 (by omega) (by omega) (by omega)
        generalize hF : Fd.fit1 ⟨nn, v, p + ((A.length : Int) + B.length) - R.length - B.length - 2⟩ = F at *
        rw [show p + ((A.length : Int) + B.length) - R.length - B.length - 2 = p + ((A.length : Int) + B.length - R.length - B.length) - 2 by omega] at k7
        have K1 := Lib.hid k1; have K2 := Lib.hid k2; have K3 := Lib.hid kc; have K4 := Lib.hid k4; have K5 := Lib.hid k5; have K6 := Lib.hid k6; have K7 := Lib.hid k7
        clear k1 k2 kc k4 k5 k6 k7 hF
        go_enter Tryz.func13, Tryz.ntmps13
        go_wp2_with (first | (go_at_call 52; (with_reducible refine Calls.mono (K1.out _) ?_); rintro r w1 ⟨rfl, hb⟩; replace hB0 := hB0.trans (hb.mono hB0.size); have hz := hB0.size; replace zb := C3.carry zb hb; have zz := zb; obtain ⟨y0, y1, y2, y3, y4, y5, y6⟩ := zz) | (go_at_call 53; (with_reducible refine Calls.mono (K2.out _) ?_); rintro r w1 ⟨rfl, rfl⟩) | (go_at_call 54; (with_reducible refine Calls.mono (K3.out _ (hE.on hB0)) ?_); rintro r w1 ⟨rfl, hb⟩; replace hB0 := hB0.trans (hb.mono hB0.size); have hz := hB0.size; replace zb := C3.carry zb hb; have zz := zb; obtain ⟨y0, y1, y2, y3, y4, y5, y6⟩ := zz) | (go_at_call 55; (with_reducible refine Calls.mono (K4.out _ (hM.on hB0)) ?_); rintro r w1 ⟨rfl, hb⟩; replace hB0 := hB0.trans (hb.mono hB0.size); have hz := hB0.size; replace zb := C3.carry zb hb; have zz := zb; obtain ⟨y0, y1, y2, y3, y4, y5, y6⟩ := zz) | (go_at_call 56; (with_reducible refine Calls.mono (K5.out _) ?_); rintro r w1 ⟨rfl, rfl⟩) | (go_at_call 57; (with_reducible refine Calls.mono (K6.out _) ?_); rintro r w1 ⟨rfl, rfl⟩) | (go_at_call 58; (with_reducible refine Calls.mono (K7.out _) ?_); rintro r w1 ⟨rfl, hb⟩; replace hB0 := hB0.trans (hb.mono hB0.size); have hz := hB0.size; replace zb := C3.carry zb hb; have zz := zb; obtain ⟨y0, y1, y2, y3, y4, y5, y6⟩ := zz))
        have s0 := y0; have s1 := y1; have s2 := y2
        obtain ⟨t0, t1, t2⟩ := set3 y0 y1 y2 (.bool F.1.n) (.int .i64 F.1.c) (.int .i64 F.1.e)
        exact bodyPost_ret (v := .tuple #[.agg #[.bool F.1.n, .int .i64 F.1.c, .int .i64 F.1.e], .bool F.2]) (by simp [results, Tryz.results13, go_sem, *]) rfl ⟨rfl, (by repeat (first | with_reducible exact Below.refl _ _ | with_reducible assumption | with_reducible refine Below.setCell ?_ (by first | omega | (simp; done) | (simp <;> omega)) _ | with_reducible refine below_drewN ?_ _ | with_reducible refine Below.drew ?_ | with_reducible refine Below.alloc ?_ (by first | omega | (simp; done) | (simp <;> omega)) _))⟩
end Go.Proofs.YtebheehjhnaklaaGreatDoor
