import Derived.Test.YtamlnbciejnbdaaGreatDoorF5
import Derived.Test.YtamlnbciejnbdaaGreatDoorS6
namespace Go.Proofs.YtamlnbciejnbdaaGreatDoor
open Go Go.RowKit
def wo (c : UInt8) (l : List UInt8) : List UInt8 := l.filter (fun b => !(b == c))
theorem wo_append (c : UInt8) (a b : List UInt8) : wo c (a ++ b) = wo c a ++ wo c b := by simp [wo]
theorem wo_self {c : UInt8} {l : List UInt8} (h : ∀ b ∈ l, b ≠ c) : wo c l = l := by
  unfold wo
  rw [List.filter_eq_self]
  intro b hb
  simp [h b hb]
theorem wo_len (c : UInt8) (l : List UInt8) : (wo c l).length ≤ l.length := List.length_filter_le _ _
theorem wo_free (c : UInt8) (l : List UInt8) : ∀ b ∈ wo c l, b ≠ c := by
  intro b hb e
  simp [wo, e] at hb
theorem wo_step (c : UInt8) {s : ByteArray} {k : Nat} (h : k < s.size) : wo c (s.data.toList.drop k) = (if s[k] == c then [] else [s[k]]) ++ wo c (s.data.toList.drop (k + 1)) := by
  rw [drop_at h]
  unfold wo
  rw [List.filter_cons]
  by_cases hc : s[k] = c
  · rw [if_neg (by simp [hc]), if_pos (by simp [hc])]; rfl
  · rw [if_pos (by simp [hc]), if_neg (by simp [hc])]; rfl
set_option maxRecDepth 100000 in
set_option maxHeartbeats 4000000 in
theorem drop_any (s : ByteArray) (c : UInt8) (w : World) (hs : s.size ≤ 1000) :
    Calls Tryz.prog 59 #[.string s, .int .u8 c.toNat] w fun r w' => r = .returned (.string ⟨(wo c s.data.toList).toArray⟩) ∧ w = w' := by
  go_enter Tryz.func59, Tryz.ntmps59
  go_wp2
  go_loopg [5, 6] s.size (fun g s4 s5 wr => ∃ (k : Nat) (out : List UInt8), wr = w ∧ s4 = .string ⟨out.toArray⟩ ∧ s5 = .int .i64 k ∧ k ≤ s.size ∧ out.length ≤ k ∧ Aside (out ++ wo c (s.data.toList.drop k) = wo c s.data.toList) ∧ Aside (g = s.size - k))
  case atStart => exact ⟨0, [], rfl, rfl, rfl, by omega, by simp, by show _ = _; simp, by show _ = _; omega⟩
  case round =>
    obtain ⟨k, out, rfl, rfl, rfl, hk, ho, hG, hg⟩ := hrel
    have hG' := hG.out
    have hg' := hg.out
    clear hG hg
    by_cases hlt : k < s.size
    · have i1 : (k : Int) < s.size := by omega
      have i2 : (k : Int) + 1 ≤ s.size := by omega
      have T1 := wo_step c hlt
      by_cases hc : s[k] = c
      · rw [if_pos (by simp [hc]), List.nil_append] at T1
        rw [T1] at hG'
        have e1 : ((s[k].toNat : Int) == (c.toNat : Int)) = true := by rw [hc]; simp
        have e2 : ((s[k].toNat : Int) != (c.toNat : Int)) = false := by simp [bne, e1]
        have HG := Lib.hid hG'
        clear hG' T1 hc
        go_wp2
        go_roundg (s.size - (k + 1))
        case measure => omega
        case rel => exact ⟨k + 1, out, rfl, rfl, by go_num, by omega, by omega, HG.out, rfl⟩
      · rw [if_neg (by simp [hc])] at T1
        rw [T1] at hG'
        have e0 : ¬ ((s[k].toNat : Int) = (c.toNat : Int)) := fun e => hc (UInt8.toNat_inj.1 (by omega))
        have e1 : ((s[k].toNat : Int) == (c.toNat : Int)) = false := by simpa using e0
        have e2 : ((s[k].toNat : Int) != (c.toNat : Int)) = true := by simp [bne, e1]
        have HG := Lib.hid hG'
        clear hG' T1 hc
        go_wp2
        go_roundg (s.size - (k + 1))
        case measure => omega
        case rel => exact ⟨k + 1, out ++ [s[k]], rfl, by rw [cat_one out hlt], by go_num, by omega, by simp; omega, by show _ = _; rw [List.append_assoc]; exact HG.out, rfl⟩
    · have i1 : ¬ (k : Int) < s.size := by omega
      have hll : s.data.toList.length = s.size := by rw [Array.length_toList]; rfl
      rw [List.drop_eq_nil_of_le (by omega)] at hG'
      have e : out = wo c s.data.toList := by simpa [wo] using hG'
      subst e
      clear hG'
      go_wp2
      go_ret
      exact ⟨rfl, rfl⟩
set_option maxRecDepth 100000 in
set_option maxHeartbeats 4000000 in
theorem countByte_any (l : List UInt8) (c : UInt8) (w : World) (hs : l.length ≤ 1000) :
    Calls Tryz.prog 16 #[.string ⟨l.toArray⟩, .int .u8 c.toNat] w fun r w' => r = .returned (.int .i64 ((l.length : Int) - (wo c l).length)) ∧ w = w' := by
  have k1 := fun W => drop_any ⟨l.toArray⟩ c W hs
  rw [show (⟨l.toArray⟩ : ByteArray).data.toList = l from rfl] at k1
  have hl := wo_len c l
  generalize wo c l = D at *
  have hw1 : IntKind.i64.wrap ((l.length : Int) - D.length) = (l.length : Int) - D.length := IntWalk.i64_in _ (by omega)
  have K1 := Lib.hid k1
  clear k1
  go_enter Tryz.func16, Tryz.ntmps16
  go_wp2_with (go_at_call 59; (with_reducible refine Calls.mono (K1.out _) ?_); rintro r w1 ⟨rfl, rfl⟩)
  all_goals go_ret
  all_goals exact ⟨rfl, rfl⟩
set_option maxHeartbeats 400000 in
theorem NegateDec_any (n : Bool) (c e : Int) (w : World) :
    Calls Tryz.prog 58 #[.agg #[.bool n, .int .i64 c, .int .i64 e]] w fun r w' =>
      r = .returned (.agg #[.bool (Fd.neg ⟨n, c, e⟩).n, .int .i64 (Fd.neg ⟨n, c, e⟩).c, .int .i64 (Fd.neg ⟨n, c, e⟩).e]) ∧ Below w.heap.size w w' := by
  cases hv : Fd.vld ⟨n, c, e⟩
  · have HF : Hid (Fd.neg ⟨n, c, e⟩ = Fd.D.z) := Lib.hid (by unfold Fd.neg; rw [hv]; rfl)
    go_enter Tryz.func58, Tryz.ntmps58
    go_wp2_with (go_at_call 56; refine (valid_any _ _ _ _).mono ?_; rintro r w1 ⟨rfl, hb⟩; obtain ⟨hc, hf⟩ := bcell hb; have hB : Below w.heap.size w w1 := (by refine Below.trans ?_ (hb.mono (by first | omega | (simp; done) | (simp <;> omega))); repeat (first | with_reducible exact Below.refl _ _ | with_reducible assumption | with_reducible refine Below.setCell ?_ (by first | omega | (simp; done) | (simp <;> omega)) _ | with_reducible refine below_drewN ?_ _ | with_reducible refine Below.drew ?_ | with_reducible refine Below.alloc ?_ (by first | omega | (simp; done) | (simp <;> omega)) _)); have hz := hb.size; (try simp at hz); (try have hz0 : w.heap.size < w1.heap.size := by omega); (try have hz1 : w.heap.size + 1 < w1.heap.size := by omega); (try have hz2 : w.heap.size + 1 + 1 < w1.heap.size := by omega))
    exact bodyPost_ret (v := .agg #[.bool false, .int .i64 0, .int .i64 0]) (by simp [results, Tryz.results58, go_sem, hc]) rfl ⟨by rw [HF.out]; rfl, (by repeat (first | with_reducible exact Below.refl _ _ | with_reducible assumption | with_reducible refine Below.setCell ?_ (by first | omega | (simp; done) | (simp <;> omega)) _ | with_reducible refine below_drewN ?_ _ | with_reducible refine Below.drew ?_ | with_reducible refine Below.alloc ?_ (by first | omega | (simp; done) | (simp <;> omega)) _))⟩
  · have HF : Hid (Fd.neg ⟨n, c, e⟩ = ⟨decide (0 < c) && !n, c, e⟩) := Lib.hid (by unfold Fd.neg; rw [hv]; rfl)
    by_cases h0 : 0 < c
    · have HG : Hid ((⟨decide (0 < c) && !n, c, e⟩ : Fd.D) = ⟨!n, c, e⟩) := Lib.hid (by rw [decide_eq_true h0, Bool.true_and])
      go_enter Tryz.func58, Tryz.ntmps58
      go_wp2_with (go_at_call 56; refine (valid_any _ _ _ _).mono ?_; rintro r w1 ⟨rfl, hb⟩; obtain ⟨hc, hf⟩ := bcell hb; have hB : Below w.heap.size w w1 := (by refine Below.trans ?_ (hb.mono (by first | omega | (simp; done) | (simp <;> omega))); repeat (first | with_reducible exact Below.refl _ _ | with_reducible assumption | with_reducible refine Below.setCell ?_ (by first | omega | (simp; done) | (simp <;> omega)) _ | with_reducible refine below_drewN ?_ _ | with_reducible refine Below.drew ?_ | with_reducible refine Below.alloc ?_ (by first | omega | (simp; done) | (simp <;> omega)) _)); have hz := hb.size; (try simp at hz); (try have hz0 : w.heap.size < w1.heap.size := by omega); (try have hz1 : w.heap.size + 1 < w1.heap.size := by omega); (try have hz2 : w.heap.size + 1 + 1 < w1.heap.size := by omega))
      exact bodyPost_ret (v := .agg #[.bool !n, .int .i64 c, .int .i64 e]) (by simp [results, Tryz.results58, go_sem, hc]) rfl ⟨by rw [HF.out, HG.out], (by repeat (first | with_reducible exact Below.refl _ _ | with_reducible assumption | with_reducible refine Below.setCell ?_ (by first | omega | (simp; done) | (simp <;> omega)) _ | with_reducible refine below_drewN ?_ _ | with_reducible refine Below.drew ?_ | with_reducible refine Below.alloc ?_ (by first | omega | (simp; done) | (simp <;> omega)) _))⟩
    · have HG : Hid ((⟨decide (0 < c) && !n, c, e⟩ : Fd.D) = ⟨false, c, e⟩) := Lib.hid (by rw [decide_eq_false h0, Bool.false_and])
      go_enter Tryz.func58, Tryz.ntmps58
      go_wp2_with (go_at_call 56; refine (valid_any _ _ _ _).mono ?_; rintro r w1 ⟨rfl, hb⟩; obtain ⟨hc, hf⟩ := bcell hb; have hB : Below w.heap.size w w1 := (by refine Below.trans ?_ (hb.mono (by first | omega | (simp; done) | (simp <;> omega))); repeat (first | with_reducible exact Below.refl _ _ | with_reducible assumption | with_reducible refine Below.setCell ?_ (by first | omega | (simp; done) | (simp <;> omega)) _ | with_reducible refine below_drewN ?_ _ | with_reducible refine Below.drew ?_ | with_reducible refine Below.alloc ?_ (by first | omega | (simp; done) | (simp <;> omega)) _)); have hz := hb.size; (try simp at hz); (try have hz0 : w.heap.size < w1.heap.size := by omega); (try have hz1 : w.heap.size + 1 < w1.heap.size := by omega); (try have hz2 : w.heap.size + 1 + 1 < w1.heap.size := by omega))
      exact bodyPost_ret (v := .agg #[.bool false, .int .i64 c, .int .i64 e]) (by simp [results, Tryz.results58, go_sem, hc]) rfl ⟨by rw [HF.out, HG.out], (by repeat (first | with_reducible exact Below.refl _ _ | with_reducible assumption | with_reducible refine Below.setCell ?_ (by first | omega | (simp; done) | (simp <;> omega)) _ | with_reducible refine below_drewN ?_ _ | with_reducible refine Below.drew ?_ | with_reducible refine Below.alloc ?_ (by first | omega | (simp; done) | (simp <;> omega)) _))⟩

set_option maxHeartbeats 400000 in
theorem amount_any (n : Bool) (c e : Int) (w : World) (hv : Fd.vld ⟨n, c, e⟩ = true) :
    Calls Tryz.prog 15 #[.agg #[.bool n, .int .i64 c, .int .i64 e]] w fun r w' => r = .returned (.agg #[.bool false, .int .i64 c, .int .i64 e]) ∧ Below w.heap.size w w' := by
  cases n
  · go_enter Tryz.func15, Tryz.ntmps15
    go_wp2
    exact bodyPost_ret (v := .agg #[.bool false, .int .i64 c, .int .i64 e]) (by simp [results, Tryz.results15, go_sem]) rfl ⟨rfl, (by repeat (first | with_reducible exact Below.refl _ _ | with_reducible assumption | with_reducible refine Below.setCell ?_ (by first | omega | (simp; done) | (simp <;> omega)) _ | with_reducible refine below_drewN ?_ _ | with_reducible refine Below.drew ?_ | with_reducible refine Below.alloc ?_ (by first | omega | (simp; done) | (simp <;> omega)) _))⟩
  · have hS := fun W => NegateDec_any true c e W
    rw [show Fd.neg ⟨true, c, e⟩ = ⟨false, c, e⟩ from by unfold Fd.neg; rw [if_pos hv]; simp] at hS
    have HS := Lib.hid hS
    clear hS
    go_enter Tryz.func15, Tryz.ntmps15
    go_wp2_with (go_at_call 58; refine (HS.out _).mono ?_; rintro r w1 ⟨rfl, hb⟩; obtain ⟨hc, hf⟩ := bcell hb; have hB : Below w.heap.size w w1 := (by refine Below.trans ?_ (hb.mono (by first | omega | (simp; done) | (simp <;> omega))); repeat (first | with_reducible exact Below.refl _ _ | with_reducible assumption | with_reducible refine Below.setCell ?_ (by first | omega | (simp; done) | (simp <;> omega)) _ | with_reducible refine below_drewN ?_ _ | with_reducible refine Below.drew ?_ | with_reducible refine Below.alloc ?_ (by first | omega | (simp; done) | (simp <;> omega)) _)); have hz := hb.size; (try simp at hz); (try have hz0 : w.heap.size < w1.heap.size := by omega); (try have hz1 : w.heap.size + 1 < w1.heap.size := by omega); (try have hz2 : w.heap.size + 1 + 1 < w1.heap.size := by omega); have hm := bmono hb; (try simp at hm); (try have hm2 := bmono2 (by with_reducible assumption) hb); (try have hq2 := Nat.lt_of_succ_le hz); (try have hq3 := Nat.lt_of_lt_of_le (by with_reducible assumption : _ < World.heap.size _) hz))
    exact bodyPost_ret (v := .agg #[.bool false, .int .i64 c, .int .i64 e]) (by simp [results, Tryz.results15, go_sem, *]) rfl ⟨rfl, (by repeat (first | with_reducible exact Below.refl _ _ | with_reducible assumption | with_reducible refine Below.setCell ?_ (by first | omega | (simp; done) | (simp <;> omega)) _ | with_reducible refine below_drewN ?_ _ | with_reducible refine Below.drew ?_ | with_reducible refine Below.alloc ?_ (by first | omega | (simp; done) | (simp <;> omega)) _))⟩
end Go.Proofs.YtamlnbciejnbdaaGreatDoor
