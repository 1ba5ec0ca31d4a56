import Derived.Test.YtebheehjhnaklaaGreatDoorHSh
import Derived.Test.YtebheehjhnaklaaGreatDoorN2
import Derived.Test.YtebheehjhnaklaaGreatDoorN6
import Derived.Test.YtebheehjhnaklaaGreatDoorN8
import Derived.Test.YtebheehjhnaklaaGreatDoorY10
namespace Go.Proofs.YtebheehjhnaklaaGreatDoor
open Go.RowKit
theorem ba_loop (s : ByteArray) : ∀ (n i : Nat) (acc : List UInt8), s.size - i = n → ByteArray.toList.loop s i acc = acc.reverse ++ s.data.toList.drop i := by
  intro n
  induction n with
  | zero =>
    intro i acc hn
    rw [ByteArray.toList.loop, if_neg (by omega)]
    have : s.data.toList.drop i = [] := List.drop_eq_nil_of_le (by rw [Array.length_toList]; exact Nat.le_of_sub_eq_zero hn)
    rw [this, List.append_nil]
  | succ n ih =>
    intro i acc hn
    have hi : i < s.size := by omega
    have hi' : i < s.data.toList.length := by rw [Array.length_toList]; exact hi
    rw [ByteArray.toList.loop, if_pos hi, ih (i + 1) _ (by omega), List.drop_eq_getElem_cons hi']
    have e : s.get! i = s.data.toList[i] := by
      show s.data[i]! = _
      have hi2 : i < s.data.size := hi
      rw [getElem!_pos s.data i hi2]; simp
    simp [e]
theorem ba_list (s : ByteArray) : s.toList = s.data.toList := by
  rw [ByteArray.toList, ba_loop s _ 0 [] rfl]; simp
theorem ba_ne {a b : ByteArray} (h : ¬ a = b) : (a.toList == b.toList) = false := by
  rw [beq_eq_false_iff_ne]
  intro e
  rw [ba_list, ba_list] at e
  exact h (ByteArray.ext (Array.toList_inj.1 e))
/-- is the text grouped -/
def ungB (s : List UInt8) (n : Nat) (c : UInt8) : Bool := grp n [c] (wo c s) == s
theorem replace_one (s : ByteArray) (c : UInt8) (w : World) (hs : s.size ≤ 80) (hM : HasMax w) :
    Calls Tryz.prog 129 #[.string s, .string ⟨#[c]⟩, .string ⟨#[]⟩] w fun r w' => r = .returned (.string ⟨(wo c s.data.toList).toArray⟩) ∧ Below w.heap.size w w' := by
  obtain ⟨_, m, hm⟩ := hM
  have h := Tryz.strings_ReplaceAll s ⟨#[c]⟩ ⟨#[]⟩ m w (by omega) hm (by show 1 ≤ 1; omega) (by show s.size + _ * 0 ≤ _; omega)
  rw [show (⟨#[c]⟩ : ByteArray).data.toList = [c] from rfl, show (⟨#[]⟩ : ByteArray).data.toList = [] from rfl, replaceAll_wo] at h
  exact h
theorem wo_size (c : UInt8) (s : ByteArray) : (⟨(wo c s.data.toList).toArray⟩ : ByteArray).size ≤ s.size := by
  have := wo_len c s.data.toList
  rw [Array.length_toList] at this
  exact this
set_option maxRecDepth 100000 in
set_option maxHeartbeats 4000000 in
theorem UngroupDigits_one (s : ByteArray) (n : Nat) (c : UInt8) (w : World) (hs : s.size ≤ 80) (h1 : 1 ≤ n) (h2 : n ≤ 9) (hM : HasMax w) :
    Calls Tryz.prog 197 #[.string s, .int .i64 n, .string ⟨#[c]⟩] w fun r w' => r = .returned (.tuple #[.string (if ungB s.data.toList n c then ⟨(wo c s.data.toList).toArray⟩ else ⟨#[]⟩), .bool (ungB s.data.toList n c)]) ∧ Below w.heap.size w w' := by
  have k1 := fun W => within_any n 1 9 W
  rw [show inr (n : Int) 1 9 = true by simp [inr]; omega] at k1
  have k2 := replace_one s c w hs hM
  have hz := wo_size c s
  have k3 := fun W => GroupDigits_any ⟨(wo c s.data.toList).toArray⟩ n ⟨#[c]⟩ W (by omega) (by show 1 ≤ _; omega)
  rw [grpW_yes ⟨by omega, h1, h2, rfl⟩] at k3
  rw [show (⟨(wo c s.data.toList).toArray⟩ : ByteArray).data.toList = wo c s.data.toList from rfl, show (⟨#[c]⟩ : ByteArray).data.toList = [c] from rfl] at k3
  have i1 : (s.size : Int) ≤ 80 := by omega
  have i2 : ¬ (80 : Int) < s.size := by omega
  by_cases hu : grp n [c] (wo c s.data.toList) = s.data.toList
  · have hb : ungB s.data.toList n c = true := by simp [ungB, hu]
    rw [hb, if_pos rfl]
    rw [hu] at k3
    rw [← of_list s] at k3
    generalize (⟨(wo c s.data.toList).toArray⟩ : ByteArray) = D at *
    have K1 := Lib.hid k1; have K2 := Lib.hid k2; have K3 := Lib.hid k3
    clear k1 k2 k3 hu hb hM
    go_enter Tryz.func197, Tryz.ntmps197
    go_wp2_with (first | (go_at_call 44; (with_reducible refine Calls.mono (K1.out _) ?_); rintro r w1 ⟨rfl, rfl⟩) | (go_at_call 129; (with_reducible refine Calls.mono K2.out ?_); rintro r w1 ⟨rfl, hb1⟩) | (go_at_call 207; (with_reducible refine Calls.mono (K3.out _) ?_); rintro r w2 ⟨rfl, hb2⟩))
    go_ret2
    exact ⟨rfl, hb1.trans (hb2.mono hb1.size)⟩
  · have hb : ungB s.data.toList n c = false := by simpa [ungB] using hu
    rw [hb, if_neg (by decide)]
    have hne : ¬ (⟨(grp n [c] (wo c s.data.toList)).toArray⟩ : ByteArray) = s := fun e => hu (congrArg (fun x : ByteArray => x.data.toList) e)
    generalize (⟨(grp n [c] (wo c s.data.toList)).toArray⟩ : ByteArray) = G at *
    generalize (⟨(wo c s.data.toList).toArray⟩ : ByteArray) = D at *
    have q1 := ba_ne hne
    have K1 := Lib.hid k1; have K2 := Lib.hid k2; have K3 := Lib.hid k3
    clear k1 k2 k3 hu hb hM
    go_enter Tryz.func197, Tryz.ntmps197
    go_wp2_with (first | (go_at_call 44; (with_reducible refine Calls.mono (K1.out _) ?_); rintro r w1 ⟨rfl, rfl⟩) | (go_at_call 129; (with_reducible refine Calls.mono K2.out ?_); rintro r w1 ⟨rfl, hb1⟩) | (go_at_call 207; (with_reducible refine Calls.mono (K3.out _) ?_); rintro r w2 ⟨rfl, hb2⟩))
    go_ret2
    exact ⟨rfl, hb1.trans (hb2.mono hb1.size)⟩
end Go.Proofs.YtebheehjhnaklaaGreatDoor
