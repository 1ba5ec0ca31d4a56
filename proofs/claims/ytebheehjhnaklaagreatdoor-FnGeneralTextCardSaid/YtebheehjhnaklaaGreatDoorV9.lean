import Derived.Test.YtebheehjhnaklaaGreatDoorV8
import Derived.Test.YtebheehjhnaklaaGreatDoorW0
namespace Go.Proofs.YtebheehjhnaklaaGreatDoor
open Go.RowKit

/-- the alignment that a specification has -/
def alW (al : Int) (ze : Bool) (k : Int) : Int := if al = 0 then (if ze then 4 else if k = 2 then 1 else 2) else al
def alF (sv : Bool) (al : Int) (ze : Bool) (k : Int) : Int := if sv then alW al ze k else 0
set_option maxHeartbeats 2000000 in
theorem AlignFor_any (f : ByteArray) (al si : Int) (alt ze : Bool) (wi gr pr : Int) (t : ByteArray) (k : Int) (w : World) :
    Calls Tryz.prog 147 #[.agg #[.string f, .int .i64 al, .int .i64 si, .bool alt, .bool ze, .int .i64 wi, .int .i64 gr, .int .i64 pr, .string t], .int .i64 k] w fun r w' => r = .returned (.int .i64 (alF (suitW (vSp f al si wi gr pr t) al si alt ze gr pr t k) al ze k)) ∧ Below w.heap.size w w' := by
  have k1 := fun W => SpecSuits_any f al si alt ze wi gr pr t k W
  generalize suitW (vSp f al si wi gr pr t) al si alt ze gr pr t k = X at *
  have K1 := Lib.hid k1
  clear k1
  cases X <;> unfold alF alW
  all_goals (
    go_enter Tryz.func147, Tryz.ntmps147
    go_wp2_with (first | (go_at_call 85; (with_reducible refine Calls.mono (K1.out _) ?_); rintro r w1 ⟨rfl, hb⟩; (first | (have hcc := fun o => hb.cell (p := ⟨w.heap.size, o, none⟩) (by first | omega | (simp; done) | (simp <;> omega))) | skip); have hz := hb.size; (try simp at hz); have hB : Below w.heap.size w w1 := (by refine Below.trans ?_ (hb.mono (by first | omega | (simp; done) | (simp <;> omega))); repeat (first | with_reducible exact Below.refl _ _ | with_reducible assumption | with_reducible refine Below.setCell ?_ (by first | omega | (simp; done) | (simp <;> omega)) _ | with_reducible refine below_drewN ?_ _ | with_reducible refine Below.drew ?_ | with_reducible refine Below.alloc ?_ (by first | omega | (simp; done) | (simp <;> omega)) _))))
    all_goals go_ret
    all_goals refine ⟨ret_int ?_, (by repeat (first | with_reducible exact Below.refl _ _ | with_reducible assumption | with_reducible refine Below.setCell ?_ (by first | omega | (simp; done) | (simp <;> omega)) _ | with_reducible refine below_drewN ?_ _ | with_reducible refine Below.drew ?_ | with_reducible refine Below.alloc ?_ (by first | omega | (simp; done) | (simp <;> omega)) _))⟩
    all_goals first | rfl | (simp_all; done))
set_option maxHeartbeats 1000000 in
theorem alignOfS_any (f : ByteArray) (al si : Int) (alt ze : Bool) (wi gr pr : Int) (t : ByteArray) (k : Int) (w : World) :
    Calls Tryz.prog 189 #[.agg #[.string f, .int .i64 al, .int .i64 si, .bool alt, .bool ze, .int .i64 wi, .int .i64 gr, .int .i64 pr, .string t], .int .i64 k] w fun r w' => r = .returned (.int .i64 (alW al ze k)) ∧ Below w.heap.size w w' := by
  unfold alW
  go_enter Tryz.func189, Tryz.ntmps189
  go_wp2
  all_goals go_ret
  all_goals refine ⟨ret_int ?_, (by repeat (first | with_reducible exact Below.refl _ _ | with_reducible assumption | with_reducible refine Below.setCell ?_ (by first | omega | (simp; done) | (simp <;> omega)) _ | with_reducible refine below_drewN ?_ _ | with_reducible refine Below.drew ?_ | with_reducible refine Below.alloc ?_ (by first | omega | (simp; done) | (simp <;> omega)) _))⟩
  all_goals first | rfl | (simp_all; done)

set_option maxHeartbeats 1000000 in
theorem fillOfS_any (f : ByteArray) (al si : Int) (alt ze : Bool) (wi gr pr : Int) (t : ByteArray) (w : World) :
    Calls Tryz.prog 188 #[.agg #[.string f, .int .i64 al, .int .i64 si, .bool alt, .bool ze, .int .i64 wi, .int .i64 gr, .int .i64 pr, .string t]] w fun r w' => r = .returned (.string (fillW true f ze)) ∧ Below w.heap.size w w' := by
  by_cases hf : f.size = 0
  · obtain rfl : f = ⟨#[]⟩ := by
      rcases bytes_cases f with h | ⟨b, rfl⟩ | h
      · exact h
      · exact absurd hf (by simp [ByteArray.size])
      · omega
    cases ze
    all_goals (
      go_enter Tryz.func188, Tryz.ntmps188
      go_wp2
      go_ret
      exact ⟨ret_str rfl, (by repeat (first | with_reducible exact Below.refl _ _ | with_reducible assumption | with_reducible refine Below.setCell ?_ (by first | omega | (simp; done) | (simp <;> omega)) _ | with_reducible refine below_drewN ?_ _ | with_reducible refine Below.drew ?_ | with_reducible refine Below.alloc ?_ (by first | omega | (simp; done) | (simp <;> omega)) _))⟩)
  · have hn : f.toList.isEmpty = false := nonempty_list (by omega)
    have hx : fillW true f ze = f := by unfold fillW; rw [if_pos rfl, if_neg hf]
    rw [hx]
    clear hx hf
    go_enter Tryz.func188, Tryz.ntmps188
    go_wp2
    go_ret
    exact ⟨rfl, (by repeat (first | with_reducible exact Below.refl _ _ | with_reducible assumption | with_reducible refine Below.setCell ?_ (by first | omega | (simp; done) | (simp <;> omega)) _ | with_reducible refine below_drewN ?_ _ | with_reducible refine Below.drew ?_ | with_reducible refine Below.alloc ?_ (by first | omega | (simp; done) | (simp <;> omega)) _))⟩

end Go.Proofs.YtebheehjhnaklaaGreatDoor
