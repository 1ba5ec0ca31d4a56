/- Promise 26: proved for every input. No condition. -/
import Derived.Test.YtkpdpohnbnpelaaN7
import Derived.Test.YtkpdpohnbnpelaaN8
import Derived.Test.YtkpdpohnbnpelaaN10
import Derived.Test.YtkpdpohnbnpelaaY13
import Derived.Test.YtkpdpohnbnpelaaRC
namespace Go.Proofs.Ytkpdpohnbnpelaa
open Go.ChangeShapes Go.WideShapes Go.ChangeAt Go.RowKit Go.Joins Go.ChangeMaps

theorem dgts_free {l : List UInt8} (h : Dgts l) {c : UInt8} (hc : c = 44 ∨ c = 95) : ∀ b ∈ l, b ≠ c := by
  intro b hb e
  obtain ⟨k, hk, rfl⟩ := h b hb
  have h0 : ((List.range 10).all fun k => !(dch false k == 44) && !(dch false k == 95)) = true := by decide +kernel
  have := List.all_eq_true.1 h0 k (List.mem_range.2 hk)
  rcases hc with rfl | rfl <;> simp [e] at this
theorem zeros_get {m i : Nat} (l : List UInt8) (h : i < m) : ∀ hh, (⟨(zeros m ++ l).toArray⟩ : ByteArray)[i]'hh = 48 := by
  intro hh
  have := zeros_at l h
  have hlt : i < (zeros m ++ l).length := hh
  rw [List.getElem?_eq_getElem hlt, Option.some.injEq] at this
  exact this
theorem size_list (l : List UInt8) : (⟨l.toArray⟩ : ByteArray).size = l.length := rfl
theorem ext_tail (m : Nat) (l : List UInt8) : (⟨(zeros m ++ l).toArray⟩ : ByteArray).extract m (m + l.length) = ⟨l.toArray⟩ := by
  apply ByteArray.ext
  rw [ByteArray.data_extract]
  apply Array.ext'
  rw [Array.toList_extract]
  simp [zeros]
set_option maxRecDepth 100000 in
set_option maxHeartbeats 8000000 in
theorem FnWidenDigits_law (s : Option Addr) (len cap : Nat) (w : World) (hcode : CodeAt s len w.heap.size w) (hcap : len ≤ cap) :
    Calls Try.prog 3 #[.slice s len cap] w fun r w' => r = .returned (.bool true) ∧ Below w.heap.size w w' := by
  by_cases hl : 1048576 < len
  · go_enter Try.func3, Try.ntmps3
    go_wp2
    go_ret
    exact ⟨rfl, (by repeat (first | with_reducible exact Below.refl _ _ | with_reducible assumption | with_reducible refine Below.setCell ?_ (by first | omega | (simp; done) | (simp <;> omega)) _ | with_reducible refine below_drewN ?_ _ | with_reducible refine Below.drew ?_ | with_reducible refine Below.alloc ?_ (by first | omega | (simp; done) | (simp <;> omega)) _))⟩
  go_enter Try.func3, Try.ntmps3
  go_wp2_with (go_at_call 4; (with_reducible refine Calls.mono (DrawWidenDigits_any _ _ _ _ hcode hcap) ?_); rintro r w1 ⟨⟨l, wd, n, sep, rfl, hl12, hD, hsp⟩, hB⟩; have hz := hB.size)
  have hsep2 : sep.size ≤ 2 := by rcases hsp with rfl | rfl | rfl | rfl <;> decide
  have k1 := fun W => WidenDigits_any ⟨l.toArray⟩ wd n sep W (by rw [size_list]; omega) (by omega)
  have k2 := fun W => WidenDigitsS_any ⟨l.toArray⟩ wd n sep W (by rw [size_list]; omega) (by omega)
  by_cases hv : (⟨l.toArray⟩ : ByteArray).size ≤ 80 ∧ 0 ≤ wd ∧ wd ≤ 30 ∧ 1 ≤ n ∧ n ≤ 9 ∧ sep.size ≤ 1
  · by_cases hl0 : l = []
    · subst hl0
      generalize widW ⟨[].toArray⟩ wd n sep = X at *
      have K1 := Lib.hid k1; have K2 := Lib.hid k2
      clear k1 k2
      go_wp2_with (first | (go_at_call 5; (with_reducible refine Calls.mono (K1.out _) ?_); rintro r w2 ⟨rfl, hb⟩; replace hB := hB.trans (hb.mono hB.size)) | (go_at_call 6; (with_reducible refine Calls.mono (K2.out _) ?_); rintro r w2 ⟨rfl, rfl⟩))
      all_goals go_ret
      all_goals exact ⟨rfl, hB⟩
    · obtain ⟨_, h0, h1, h2, h3, h4⟩ := hv
      obtain ⟨wd, rfl⟩ := Int.eq_ofNat_of_zero_le h0
      obtain ⟨n, rfl⟩ := Int.eq_ofNat_of_zero_le (show 0 ≤ n by omega)
      rw [widW_yes (by rw [size_list]; omega) (by omega) (by omega) (by omega) h4] at k1 k2
      rw [show (⟨l.toArray⟩ : ByteArray).data.toList = l from rfl] at k1 k2
      have hl1 : 1 ≤ l.length := List.length_pos_iff.2 hl0
      rcases hsp with rfl | rfl | rfl | rfl
      · obtain ⟨m, e1, e2, e3, e4, e5⟩ := wid_ok (l := l) (wd := wd) (n := n) (c := 44) (by omega) (by omega) (by omega) (by omega) (dgts_free hD (by decide)) (by decide)
        rw [show (⟨#[44]⟩ : ByteArray).data.toList = [44] from rfl] at k1 k2
        generalize widL l wd n [44] = L at *
        have k3 : ∀ W, Calls Try.prog 7 #[.string ⟨L.toArray⟩, .int .u8 (((⟨#[44]⟩ : ByteArray)[0]'(by decide)).toNat : Int)] W fun r w' => r = .returned (.string ⟨(zeros m ++ l).toArray⟩) ∧ W = w' := fun W => by
          have := drop_any ⟨L.toArray⟩ 44 W (by rw [size_list]; omega)
          rw [show (⟨L.toArray⟩ : ByteArray).data.toList = L from rfl, e1] at this
          exact this
        have hL1 : 1 ≤ L.length := by
          have := wo_len 44 L
          rw [e1, List.length_append] at this
          omega
        have hLe : L.isEmpty = false := by cases L; simp at hL1; rfl
        have hle : l.isEmpty = false := by cases l; exact absurd rfl hl0; rfl
        have hx := ext_tail m l
        have hzl : (zeros m ++ l).length = m + l.length := by rw [List.length_append, zeros_len]
        have hz0 := fun i (hi : i < m) => zeros_get l hi
        have hZ0 : m = 0 → zeros m ++ l = l := fun e => by subst e; rfl
        have K1 := Lib.hid k1; have K2 := Lib.hid k2
        clear k1 k2 e1
        generalize zeros m ++ l = Z at *
        have K3 := Lib.hid k3
        clear k3
        have hk0 : (0 : Int) ≤ m := by omega
        have j3 : (wd : Int) ≤ L.length := by omega
        have j4 : ¬ (L.length : Int) < wd := by omega
        have HX := Lib.hid hx; have HZ := Lib.hid hz0; have HZ0 := Lib.hid hZ0
        clear hx hz0 hZ0
        go_wp2_with (first | (go_at_call 5; (with_reducible refine Calls.mono (K1.out _) ?_); rintro r w2 ⟨rfl, hb⟩; replace hB := hB.trans (hb.mono hB.size)) | (go_at_call 6; (with_reducible refine Calls.mono (K2.out _) ?_); rintro r w2 ⟨rfl, rfl⟩) | (go_at_call 7; (with_reducible refine Calls.mono (K3.out _) ?_); rintro r w2 ⟨rfl, rfl⟩))
        go_loopg [10] m (fun g s10 wr => ∃ i : Nat, wr = w2 ∧ s10 = .int .i64 i ∧ i ≤ m ∧ Aside (g = m - i))
        case atStart => exact ⟨0, rfl, rfl, by omega, rfl⟩
        case round =>
          obtain ⟨i, rfl, rfl, hi, hg⟩ := hrel
          have hg' := hg.out
          clear hg
          by_cases hlt : i < m
          · have i1 : (i : Int) < m := by omega
            have i2 : (i : Int) < (m : Int) + l.length := by omega
            have i3 : i < m + l.length := by omega
            have hzz := HZ.out i hlt (by show i < Z.length; omega)
            go_wp2
            go_roundg (m - (i + 1))
            case measure => omega
            case rel => exact ⟨i + 1, rfl, by go_num, by omega, rfl⟩
          · obtain rfl : i = m := by omega
            have i1 : ¬ (i : Int) < i := by omega
            have hx := HX.out
            rcases e4 with e4 | e4
            · have e5z := HZ0.out e4
              subst e4
              subst e5z
              simp only [Nat.zero_add] at hx
              clear hzl
              go_wp2
              all_goals go_ret
              all_goals exact ⟨rfl, hB⟩
            · have j5 : (L.length : Int) ≤ (wd : Int) + 1 := by omega
              go_wp2
              all_goals go_ret
              all_goals exact ⟨rfl, hB⟩
      · obtain ⟨m, e1, e2, e3, e4, e5⟩ := wid_ok (l := l) (wd := wd) (n := n) (c := 95) (by omega) (by omega) (by omega) (by omega) (dgts_free hD (by decide)) (by decide)
        rw [show (⟨#[95]⟩ : ByteArray).data.toList = [95] from rfl] at k1 k2
        generalize widL l wd n [95] = L at *
        have k3 : ∀ W, Calls Try.prog 7 #[.string ⟨L.toArray⟩, .int .u8 (((⟨#[95]⟩ : ByteArray)[0]'(by decide)).toNat : Int)] W fun r w' => r = .returned (.string ⟨(zeros m ++ l).toArray⟩) ∧ W = w' := fun W => by
          have := drop_any ⟨L.toArray⟩ 95 W (by rw [size_list]; omega)
          rw [show (⟨L.toArray⟩ : ByteArray).data.toList = L from rfl, e1] at this
          exact this
        have hL1 : 1 ≤ L.length := by
          have := wo_len 95 L
          rw [e1, List.length_append] at this
          omega
        have hLe : L.isEmpty = false := by cases L; simp at hL1; rfl
        have hle : l.isEmpty = false := by cases l; exact absurd rfl hl0; rfl
        have hx := ext_tail m l
        have hzl : (zeros m ++ l).length = m + l.length := by rw [List.length_append, zeros_len]
        have hz0 := fun i (hi : i < m) => zeros_get l hi
        have hZ0 : m = 0 → zeros m ++ l = l := fun e => by subst e; rfl
        have K1 := Lib.hid k1; have K2 := Lib.hid k2
        clear k1 k2 e1
        generalize zeros m ++ l = Z at *
        have K3 := Lib.hid k3
        clear k3
        have hk0 : (0 : Int) ≤ m := by omega
        have j3 : (wd : Int) ≤ L.length := by omega
        have j4 : ¬ (L.length : Int) < wd := by omega
        have HX := Lib.hid hx; have HZ := Lib.hid hz0; have HZ0 := Lib.hid hZ0
        clear hx hz0 hZ0
        go_wp2_with (first | (go_at_call 5; (with_reducible refine Calls.mono (K1.out _) ?_); rintro r w2 ⟨rfl, hb⟩; replace hB := hB.trans (hb.mono hB.size)) | (go_at_call 6; (with_reducible refine Calls.mono (K2.out _) ?_); rintro r w2 ⟨rfl, rfl⟩) | (go_at_call 7; (with_reducible refine Calls.mono (K3.out _) ?_); rintro r w2 ⟨rfl, rfl⟩))
        go_loopg [10] m (fun g s10 wr => ∃ i : Nat, wr = w2 ∧ s10 = .int .i64 i ∧ i ≤ m ∧ Aside (g = m - i))
        case atStart => exact ⟨0, rfl, rfl, by omega, rfl⟩
        case round =>
          obtain ⟨i, rfl, rfl, hi, hg⟩ := hrel
          have hg' := hg.out
          clear hg
          by_cases hlt : i < m
          · have i1 : (i : Int) < m := by omega
            have i2 : (i : Int) < (m : Int) + l.length := by omega
            have i3 : i < m + l.length := by omega
            have hzz := HZ.out i hlt (by show i < Z.length; omega)
            go_wp2
            go_roundg (m - (i + 1))
            case measure => omega
            case rel => exact ⟨i + 1, rfl, by go_num, by omega, rfl⟩
          · obtain rfl : i = m := by omega
            have i1 : ¬ (i : Int) < i := by omega
            have hx := HX.out
            rcases e4 with e4 | e4
            · have e5z := HZ0.out e4
              subst e4
              subst e5z
              simp only [Nat.zero_add] at hx
              clear hzl
              go_wp2
              all_goals go_ret
              all_goals exact ⟨rfl, hB⟩
            · have j5 : (L.length : Int) ≤ (wd : Int) + 1 := by omega
              go_wp2
              all_goals go_ret
              all_goals exact ⟨rfl, hB⟩
      · obtain ⟨m, e1, e2, e3, e4, e5⟩ := wid_ok0 (l := l) (wd := wd) (n := n) (by omega) (by omega)
        rw [show (⟨#[]⟩ : ByteArray).data.toList = [] from rfl] at k1 k2
        rw [e1] at k1 k2 e3 e4 e5
        clear e1
        have hle : l.isEmpty = false := by cases l; exact absurd rfl hl0; rfl
        have hx := ext_tail m l
        have hzl : (zeros m ++ l).length = m + l.length := by rw [List.length_append, zeros_len]
        have hz0 := fun i (hi : i < m) => zeros_get l hi
        have hZ0 : m = 0 → zeros m ++ l = l := fun e => by subst e; rfl
        generalize zeros m ++ l = Z at *
        have hLe : Z.isEmpty = false := by cases Z; simp at hzl; omega; rfl
        have K1 := Lib.hid k1; have K2 := Lib.hid k2
        clear k1 k2
        have j6 : (wd : Int) ≤ (m : Int) + l.length := by omega
        have j7 : m = 0 ∨ (m : Int) + l.length ≤ (wd : Int) + 1 := by omega
        have hk0 : (0 : Int) ≤ m := by omega
        have j3 : (wd : Int) ≤ Z.length := by omega
        have j4 : ¬ (Z.length : Int) < wd := by omega
        have HX := Lib.hid hx; have HZ := Lib.hid hz0; have HZ0 := Lib.hid hZ0
        clear hx hz0 hZ0
        go_wp2_with (first | (go_at_call 5; (with_reducible refine Calls.mono (K1.out _) ?_); rintro r w2 ⟨rfl, hb⟩; replace hB := hB.trans (hb.mono hB.size)) | (go_at_call 6; (with_reducible refine Calls.mono (K2.out _) ?_); rintro r w2 ⟨rfl, rfl⟩))
        go_loopg [10] m (fun g s10 wr => ∃ i : Nat, wr = w2 ∧ s10 = .int .i64 i ∧ i ≤ m ∧ Aside (g = m - i))
        case atStart => exact ⟨0, rfl, rfl, by omega, rfl⟩
        case round =>
          obtain ⟨i, rfl, rfl, hi, hg⟩ := hrel
          have hg' := hg.out
          clear hg
          by_cases hlt : i < m
          · have i1 : (i : Int) < m := by omega
            have i2 : (i : Int) < (m : Int) + l.length := by omega
            have i3 : i < m + l.length := by omega
            have hzz := HZ.out i hlt (by show i < Z.length; omega)
            go_wp2
            go_roundg (m - (i + 1))
            case measure => omega
            case rel => exact ⟨i + 1, rfl, by go_num, by omega, rfl⟩
          · obtain rfl : i = m := by omega
            have i1 : ¬ (i : Int) < i := by omega
            have hx := HX.out
            rcases e4 with e4 | e4
            · have e5z := HZ0.out e4
              subst e4
              subst e5z
              simp only [Nat.zero_add] at hx
              clear hzl
              go_wp2
              all_goals go_ret
              all_goals exact ⟨rfl, hB⟩
            · have j5 : (i : Int) + l.length ≤ (wd : Int) + 1 := by omega
              go_wp2
              all_goals go_ret
              all_goals exact ⟨rfl, hB⟩
      · exact absurd h4 (by decide)
  · rw [widW_no hv] at k1 k2
    have K1 := Lib.hid k1; have K2 := Lib.hid k2
    clear k1 k2
    go_wp2_with (first | (go_at_call 5; (with_reducible refine Calls.mono (K1.out _) ?_); rintro r w2 ⟨rfl, hb⟩; replace hB := hB.trans (hb.mono hB.size)) | (go_at_call 6; (with_reducible refine Calls.mono (K2.out _) ?_); rintro r w2 ⟨rfl, rfl⟩))
    all_goals go_ret
    all_goals exact ⟨rfl, hB⟩

set_option maxRecDepth 100000 in
theorem FnWidenDigits_lifted (os : Os) (started : os.Started) (H : Type) (enc : TypeId × Value → H) :
    ReturnsInHanded {} Try.checked os 3 .any (Rows.fnWidenDigitsSpec.pre6 enc Try.prog Try.f3 Rows.fnWidenDigitsRow.domain false) (Rows.fnWidenDigitsSpec.post enc Try.prog Try.f3 false true false false) := by
  refine returnsInHanded_of_change (C := Try.checked) Try.own started (by kernel_rfl) Try.func3
    (ChangeSpec.witness6 (enc := enc) (C := Try.checked) false ⟨#[], #[.slice none 0 0], []⟩ 8 (by kernel_rfl) (by kernel_rfl) (by kernel_rfl) (by kernel_rfl)) ?_
  intro W base args ds gs before hval0 hW hcnd _
  have hval : ∀ (j : Nat) t v, Try.f3.params[j]? = some t → args[j]? = some v → Value.okWide Try.prog W .any base t v := hval0
  have hW' := hW
  obtain ⟨p, q, hA0, hV, rfl, hfz, hnd⟩ := hW
  have hA : DataW.TrodAll enc Try.prog W 0 (fun _ => true) true Try.f3.params.toList args.toList ds p := hA0
  rw [Try.params3] at hA hval
  obtain ⟨v0, d0, rfl, rfl, h0⟩ := trodAll_one hA
  obtain ⟨rfl, rfl⟩ := trodVars_none hV
  obtain ⟨s, len, cap, rfl, hcap, hcode⟩ := open_code (hval 0 22 v0 rfl rfl) h0
  clear hA0 hval0
  have hlt := fun x hx => hW'.lt x hx
  refine (FnWidenDigits_law s len cap W hcode hcap).mono fun e_ W' ⟨he, hb⟩ => ?_
  subst he
  exact ⟨_, rfl, post_of_below (pa := p) (pv := []) hW' (fun _ _ _ => trodAll_mk1 (shut_bool Try.underlying4 true)) (fun sp hsp => trodAll_mk1 (code_back h0 hb (fun x hx => hlt x (by simp [hx])) (fun x hx => hsp x (by simp [hx])))) (fun _ _ => rfl) (by simp) hb (ok_one (by kernel_rfl) rfl (okWide_bool_mk Try.underlying4 true))⟩

theorem FnWidenDigits_holds : Rows.FnWidenDigitsSaid :=
  OpenClaim.holds_of_wide 3 Try.f3 rfl rfl rfl rfl rfl rfl rfl ⟨rfl, rfl, rfl, rfl, rfl⟩ rfl rfl rfl rfl rfl (by kernel_rfl) Try.func3 (by kernel_rfl)
    (of_decide_eq_true (by kernel_rfl)) (by unfold Func.isWrapper; first | (rw [if_pos (by decide +kernel)]; kernel_rfl) | (rw [if_neg (by decide +kernel)]; exact ⟨rfl, rfl⟩))
    (fun os started H enc _ => FnWidenDigits_lifted os started H enc)
end Go.Proofs.Ytkpdpohnbnpelaa
