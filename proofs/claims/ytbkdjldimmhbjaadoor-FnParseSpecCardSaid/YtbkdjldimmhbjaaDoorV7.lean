import Derived.Test.YtbkdjldimmhbjaaDoorW0
import Derived.Test.YtbkdjldimmhbjaaDoorAB
namespace Go.Proofs.YtbkdjldimmhbjaaDoor
open Go.RowKit
/-- the kind of a type -/
def kindB (b : UInt8) : Int :=
  if b == 100 || b == 98 || b == 111 || b == 120 || b == 88 || b == 99 then 0 else if b == 102 || b == 101 || b == 69 || b == 103 || b == 71 || b == 37 then 1 else if b == 115 then 2 else -1
/-- the marks that mean nothing for texts -/
def marksW (al si : Int) (alt ze : Bool) (gr : Int) : Bool := al == 4 || (!(si == 0) || (alt || (ze || !(gr == 0))))
/-- a type suits a kind, and so do the marks -/
def suitT (al si : Int) (alt ze : Bool) (gr pr : Int) (t : ByteArray) (k : Int) : Bool :=
  match t.data.toList with
  | [] => if k = 0 then pr == -1 else if k = 1 then pr == -1 && !alt else if k = 2 then !marksW al si alt ze gr else false
  | [b] => kindB b == k && (if k = 0 then pr == -1 && (if b == 99 then !marksW al si alt ze gr else (!(gr == 1) || b == 100)) else if k = 1 then true else if k = 2 then !marksW al si alt ze gr else false)
  | _ => false
def suitW (v : Bool) (al si : Int) (alt ze : Bool) (gr pr : Int) (t : ByteArray) (k : Int) : Bool := v && suitT al si alt ze gr pr t k
theorem idx_whole (b : UInt8) : decide (0 ≤ Lib.indexByte [100, 98, 111, 120, 88, 99] b) = (kindB b == 0) :=
  eq_of_beq (all_bytes (fun b => decide (0 ≤ Lib.indexByte [100, 98, 111, 120, 88, 99] b) == (kindB b == 0)) (by kernel_rfl) b)
theorem idx_real (b : UInt8) : decide (0 ≤ Lib.indexByte [102, 101, 69, 103, 71, 37] b) = (kindB b == 1) :=
  eq_of_beq (all_bytes (fun b => decide (0 ≤ Lib.indexByte [102, 101, 69, 103, 71, 37] b) == (kindB b == 1)) (by kernel_rfl) b)
theorem idx_text (b : UInt8) : decide (0 ≤ Lib.indexByte [115] b) = (kindB b == 2) :=
  eq_of_beq (all_bytes (fun b => decide (0 ≤ Lib.indexByte [115] b) == (kindB b == 2)) (by kernel_rfl) b)
theorem okType_cases {t : ByteArray} (h : okType t = true) : t = ⟨#[]⟩ ∨ ∃ b, t = ⟨#[b]⟩ := by
  rcases bytes_cases t with rfl | ⟨b, rfl⟩ | h2
  · exact .inl rfl
  · exact .inr ⟨b, rfl⟩
  · rw [okType_two h2] at h; cases h
theorem okFill_cases {f : ByteArray} {al : Int} (h : okFill f al = true) : f = ⟨#[]⟩ ∨ ∃ b, f = ⟨#[b]⟩ := by
  rcases bytes_cases f with rfl | ⟨b, rfl⟩ | h2
  · exact .inl rfl
  · exact .inr ⟨b, rfl⟩
  · rw [okFill_two h2] at h; cases h
structure VS (f : ByteArray) (al si wi gr pr : Int) (t : ByteArray) : Prop where
  al0 : 0 ≤ al
  al4 : al ≤ 4
  si0 : 0 ≤ si
  si3 : si ≤ 3
  gr0 : 0 ≤ gr
  gr2 : gr ≤ 2
  wi0 : 0 ≤ wi
  wi30 : wi ≤ 30
  pr0 : -1 ≤ pr
  pr9 : pr ≤ 9
  fill : okFill f al = true
  type : okType t = true
theorem vSp_open {f : ByteArray} {al si wi gr pr : Int} {t : ByteArray} (h : vSp f al si wi gr pr t = true) : VS f al si wi gr pr t := by
  simp only [vSp, inr, Bool.and_eq_true, decide_eq_true_eq] at h
  obtain ⟨⟨⟨⟨⟨⟨⟨a, b⟩, c, d⟩, e, f⟩, g, h⟩, i, j⟩, k⟩, l⟩ := h
  exact ⟨a, b, c, d, e, f, g, h, i, j, k, l⟩

set_option maxHeartbeats 2000000 in
theorem kindOfS_one (b : UInt8) (w : World) :
    Calls Tryd.prog 89 #[.string ⟨#[b]⟩] w fun r w' => r = .returned (.int .i64 (kindB b)) ∧ w = w' := by
  go_enter Tryd.func89, Tryd.ntmps89
  go_wp2
  all_goals go_ret
  all_goals refine ⟨ret_int ?_, rfl⟩
  all_goals first | (simp_all [kindB]; done)
end Go.Proofs.YtbkdjldimmhbjaaDoor
