import Derived.Test.YtbkdjldimmhbjaaDoorPS5
import Derived.Test.YtbkdjldimmhbjaaDoorY2P
import Derived.Deep.QuietTactic
namespace Go.Proofs.YtbkdjldimmhbjaaDoor
open Go Go.RowKit
theorem ext_headP (c : UInt8) (r : List UInt8) : (⟨(c :: r).toArray⟩ : ByteArray).extract 0 1 = ⟨#[c]⟩ := by
  apply ByteArray.ext
  simp [ByteArray.data_extract]
theorem ext_restP (k : Nat) (l : List UInt8) : (⟨l.toArray⟩ : ByteArray).extract k l.length = ⟨(l.drop k).toArray⟩ := by
  apply ByteArray.ext
  simp [ByteArray.data_extract]
  exact List.take_of_length_le (by simp)
set_option maxHeartbeats 2000000 in
theorem taken_any (l m : List UInt8) (hl : l.length ≤ 2000000) (hm : m.length ≤ 100) (w : World) :
    Calls Tryd.prog 55 #[.string ⟨l.toArray⟩, .string ⟨m.toArray⟩] w fun r w' => r = .returned (.tuple #[.int .i64 (tk Lib.indexByte m l).1, .string ⟨(tk Lib.indexByte m l).2.toArray⟩]) ∧ Below w.heap.size w w' := by
  have hB := Below.refl w.heap.size w
  cases l with
  | nil =>
    go_enter Tryd.func55, Tryd.ntmps55
    go_wp2
    go_ret2
    exact ⟨rfl, hB⟩
  | cons b l =>
    have k1 := fun W => mB (indexOfS_any ⟨m.toArray⟩ b (by show m.length ≤ _; omega) W)
    rw [show (⟨m.toArray⟩ : ByteArray).data.toList = m from rfl] at k1
    have hT : (0 ≤ Lib.indexByte m b → tk Lib.indexByte m (b :: l) = (Lib.indexByte m b + 1, l)) ∧ (¬ 0 ≤ Lib.indexByte m b → tk Lib.indexByte m (b :: l) = (0, b :: l)) := by
      constructor
      · intro h; show (if _ then _ else _) = _; rw [if_pos h]
      · intro h; show (if _ then _ else _) = _; rw [if_neg h]
    have p1 := Lib.indexByte_ge m b
    have p2 : Lib.indexByte m b + 1 ≤ m.length := by
      have := ixI_le m b.toNat
      unfold ixI at this
      split at this
      · simpa using this
      · rename_i h
        clear this hT p1 k1
        induction m with
        | nil => show (-1 : Int) + 1 ≤ _; simp
        | cons a m ih =>
          have := ih (by simp at hm; omega)
          rw [Lib.indexByte]
          simp only [List.length_cons]
          split
          · omega
          · split
            · omega
            · omega
    generalize tk Lib.indexByte m (b :: l) = T at *
    generalize Lib.indexByte m b = k at *
    have hx : ∀ h, (⟨(b :: l).toArray⟩ : ByteArray)[0]'h = b := fun _ => rfl
    have hne : (⟨(b :: l).toArray⟩ : ByteArray).toList.isEmpty = false := nonempty_list (by show 1 ≤ (b :: l).length; simp)
    have hsz : (⟨(b :: l).toArray⟩ : ByteArray).size = l.length + 1 := rfl
    have he : (⟨(b :: l).toArray⟩ : ByteArray).extract 1 (⟨(b :: l).toArray⟩ : ByteArray).size = ⟨l.toArray⟩ := ext_restP 1 (b :: l)
    have s1 : 1 ≤ (⟨(b :: l).toArray⟩ : ByteArray).size := by show 1 ≤ (b :: l).length; simp
    have s3 : (⟨(b :: l).toArray⟩ : ByteArray).size ≤ 2000000 := hl
    generalize hS : (⟨(b :: l).toArray⟩ : ByteArray) = s at *
    have HS := Lib.hid hS
    clear hS
    generalize (⟨m.toArray⟩ : ByteArray) = M at *
    have K1 := Lib.hid k1
    clear k1
    have s2 : (1 : Int) ≤ s.size := by omega
    clear hsz
    by_cases hk : 0 ≤ k
    · rw [hT.1 hk]
      clear hT hl
      go_enter Tryd.func55, Tryd.ntmps55
      go_wp2_with (go_at_call 54; (with_reducible refine Calls.mono (K1.out _) ?_); rintro r w1 ⟨rfl, hb⟩; replace hB := hB.trans (hb.mono hB.size))
      refine wp_region_since (by kernel_rfl) (by kernel_rfl) ?_
      repeat (quiet_step (fail))
      refine wpQuiet_nil ?_
      intro w_ hw_
      obtain ⟨⟨w1, hb⟩, hw2⟩ := hw_
      have hw3 : w1 = w_ := hw2.symm
      clear hw2
      subst hw3
      replace hB := hB.trans (hb.mono hB.size)
      have hz := hb.size
      go_wp2
      go_ret2
      exact ⟨rfl, hB⟩
    · rw [hT.2 hk]
      have hk1 : k = -1 := by omega
      subst hk1
      clear hT hl
      go_enter Tryd.func55, Tryd.ntmps55
      go_wp2_with (go_at_call 54; (with_reducible refine Calls.mono (K1.out _) ?_); rintro r w1 ⟨rfl, hb⟩; replace hB := hB.trans (hb.mono hB.size))
      go_ret2
      exact ⟨by rw [HS.out]; rfl, hB⟩
def isD (b : UInt8) : Bool := decide (48 ≤ b.toNat) && decide (b.toNat ≤ 57)
def runN : List UInt8 → Int → Int × List UInt8
  | [], n => (n, [])
  | b :: r, n => if isD b = true then runN r (min (10 * n + ((b.toNat : Int) - 48)) 1000) else (n, b :: r)
/-- a number at the beginning of a text -/
def tkN : List UInt8 → Int × List UInt8
  | [] => (-1, [])
  | b :: r => if isD b = true then runN (b :: r) 0 else (-1, b :: r)
theorem drop_atP {s : ByteArray} {k : Nat} (h : k < s.size) : s.data.toList.drop k = s[k] :: s.data.toList.drop (k + 1) := by
  have h' : k < s.data.toList.length := by rw [Array.length_toList]; exact h
  rw [List.drop_eq_getElem_cons h']
  rfl
theorem ext_sz (s : ByteArray) (k : Nat) : s.extract k s.size = ⟨(s.data.toList.drop k).toArray⟩ := by
  have := ext_restP k s.data.toList
  rw [← of_list s] at this
  rw [← this]
  congr 1
set_option maxRecDepth 100000 in
set_option maxHeartbeats 4000000 in
theorem takeNumber_any (s : ByteArray) (hs : s.size ≤ 2000000) (w : World) :
    Calls Tryd.prog 56 #[.string s] w fun r w' => r = .returned (.tuple #[.int .i64 (tkN s.data.toList).1, .string ⟨(tkN s.data.toList).2.toArray⟩]) ∧ Below w.heap.size w w' := by
  have hB := Below.refl w.heap.size w
  by_cases h0 : s.size = 0
  · have hl : s.data.toList = [] := List.length_eq_zero_iff.1 (by rw [Array.length_toList]; exact h0)
    have e : s = ⟨#[]⟩ := by
      rw [of_list s, hl]
    clear hl
    subst e
    go_enter Tryd.func56, Tryd.ntmps56
    go_wp2
    go_ret2
    exact ⟨rfl, hB⟩
  · have hne : s.toList.isEmpty = false := nonempty_list (by omega)
    have hd := drop_atP (s := s) (k := 0) (by omega)
    rw [List.drop_zero] at hd
    have i0 : 0 < s.size := by omega
    have i1 : (0 : Int) < s.size := by omega
    cases hc : isD s[0]
    · have hT : tkN s.data.toList = (-1, s.data.toList) := by
        rw [hd]
        show (if isD s[0] = true then _ else _) = _
        rw [hc]
        rfl
      rw [hT, show (⟨s.data.toList.toArray⟩ : ByteArray) = s from (of_list s).symm]
      unfold isD at hc
      have hcc : s[0].toNat < 48 ∨ 57 < s[0].toNat := by
        simp only [Bool.and_eq_false_iff, decide_eq_false_iff_not] at hc
        omega
      clear hT hd hc h0
      by_cases h48 : s[0].toNat < 48
      · go_enter Tryd.func56, Tryd.ntmps56
        go_wp2
        go_ret2
        exact ⟨rfl, hB⟩
      · have h57 : 57 < s[0].toNat := by omega
        go_enter Tryd.func56, Tryd.ntmps56
        go_wp2
        go_ret2
        exact ⟨rfl, hB⟩
    · have hT : tkN s.data.toList = runN s.data.toList 0 := by
        rw [hd]
        show (if isD s[0] = true then _ else _) = _
        rw [hc]
        rfl
      rw [hT]
      have hc1 : 48 ≤ s[0].toNat ∧ s[0].toNat ≤ 57 := by
        unfold isD at hc
        simpa using hc
      obtain ⟨c1, c2⟩ := hc1
      have c3 : ¬ s[0].toNat < 48 := by omega
      have c4 : ¬ 57 < s[0].toNat := by omega
      clear hT hd hc h0
      go_enter Tryd.func56, Tryd.ntmps56
      go_wp2
      go_loopg [4, 5] s.size (fun g s4 s5 wr => ∃ (n : Int) (k : Nat), wr = w ∧ s4 = .int .i64 n ∧ s5 = .int .i64 k ∧ 0 ≤ n ∧ n ≤ 1000 ∧ k ≤ s.size ∧ Aside (g = s.size - k) ∧ Aside (runN (s.data.toList.drop k) n = runN s.data.toList 0))
      case atStart => exact ⟨0, 0, rfl, rfl, rfl, by omega, by omega, by omega, by show _ = _; omega, by show _ = _; rw [List.drop_zero]⟩
      case round =>
        obtain ⟨n, k, rfl, rfl, rfl, hn0, hn1, hk, hg, hv⟩ := hrel
        have hg' := hg.out
        have hv' := hv.out
        clear hg hv
        have hB := Below.refl wr.heap.size wr
        by_cases hlt : k < s.size
        · have j1 : (k : Int) < s.size := by omega
          rw [drop_atP hlt] at hv'
          cases hc : isD s[k]
          · have hv2 : runN s.data.toList 0 = (n, s.data.toList.drop k) := by
              rw [← hv', drop_atP hlt]
              show (if isD s[k] = true then _ else _) = _
              rw [hc]
              rfl
            have HV := Lib.hid hv2
            clear hv2 hv'
            unfold isD at hc
            have hcc : s[k].toNat < 48 ∨ 57 < s[k].toNat := by
              simp only [Bool.and_eq_false_iff, decide_eq_false_iff_not] at hc
              omega
            clear hc
            have j2 : (k : Int) ≤ s.size := by omega
            have j3 : k ≤ s.size := by omega
            rcases hcc with hcc | hcc
            · have d1 : ¬ 48 ≤ s[k].toNat := by omega
              go_wp2
              refine wp_region_since (by kernel_rfl) (by kernel_rfl) ?_
              repeat (quiet_step (fail))
              refine wpQuiet_nil ?_
              intro w_ hw_
              obtain ⟨⟨w1, hb⟩, hw2⟩ := hw_
              have hw3 : w1 = w_ := hw2.symm
              clear hw2
              subst hw3
              replace hB := hB.trans (hb.mono hB.size)
              have hz := hb.size
              go_wp2
              go_ret2
              exact ⟨by rw [HV.out, ext_sz]; rfl, hB⟩
            · have d1 : ¬ s[k].toNat ≤ 57 := by omega
              have d2 : 48 ≤ s[k].toNat := by omega
              go_wp2
              refine wp_region_since (by kernel_rfl) (by kernel_rfl) ?_
              repeat (quiet_step (fail))
              refine wpQuiet_nil ?_
              intro w_ hw_
              obtain ⟨⟨w1, hb⟩, hw2⟩ := hw_
              have hw3 : w1 = w_ := hw2.symm
              clear hw2
              subst hw3
              replace hB := hB.trans (hb.mono hB.size)
              have hz := hb.size
              go_wp2
              go_ret2
              exact ⟨by rw [HV.out, ext_sz]; rfl, hB⟩
          · have hv2 : runN s.data.toList 0 = runN (s.data.toList.drop (k + 1)) (min (10 * n + ((s[k].toNat : Int) - 48)) 1000) := by
              rw [← hv']
              show (if isD s[k] = true then _ else _) = _
              rw [hc]
              rfl
            have HV := Lib.hid hv2
            clear hv2 hv'
            have hc1 : 48 ≤ s[k].toNat ∧ s[k].toNat ≤ 57 := by
              unfold isD at hc
              simpa using hc
            clear hc
            obtain ⟨d1, d2⟩ := hc1
            go_wp2
            go_roundg (s.size - (k + 1))
            case measure => omega
            case rel => exact ⟨min (10 * n + ((s[k].toNat : Int) - 48)) 1000, k + 1, rfl, by first | rfl | go_num, by go_num, by omega, by omega, by omega, rfl, HV.out.symm⟩
        · have j1 : ¬ (k : Int) < s.size := by omega
          have hv2 : runN s.data.toList 0 = (n, s.data.toList.drop k) := by
            rw [← hv', List.drop_eq_nil_of_le (by rw [Array.length_toList]; show s.size ≤ k; omega)]
            rfl
          have HV := Lib.hid hv2
          clear hv2 hv'
          have j2 : (k : Int) ≤ s.size := by omega
          have j3 : k ≤ s.size := by omega
          go_wp2
          refine wp_region_since (by kernel_rfl) (by kernel_rfl) ?_
          repeat (quiet_step (fail))
          refine wpQuiet_nil ?_
          intro w_ hw_
          obtain ⟨⟨w1, hb⟩, hw2⟩ := hw_
          have hw3 : w1 = w_ := hw2.symm
          clear hw2
          subst hw3
          replace hB := hB.trans (hb.mono hB.size)
          have hz := hb.size
          go_wp2
          go_ret2
          exact ⟨by rw [HV.out, ext_sz]; rfl, hB⟩
end Go.Proofs.YtbkdjldimmhbjaaDoor
