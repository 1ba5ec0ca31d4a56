import Derived.Test.YtbkdjldimmhbjaaDoorU1
namespace Go.Proofs.YtbkdjldimmhbjaaDoor
open Go.RowKit
set_option maxRecDepth 100000 in
set_option maxHeartbeats 8000000 in
theorem suitsS_any (f : ByteArray) (al si : Int) (alt ze : Bool) (wi gr pr : Int) (t : ByteArray) (k : Int) (w : World) (h0 : -1 ≤ pr) (ht : okType t = true) :
    Calls Tryd.prog 64 #[.agg #[.string f, .int .i64 al, .int .i64 si, .bool alt, .bool ze, .int .i64 wi, .int .i64 gr, .int .i64 pr, .string t], .int .i64 k] w fun r w' => r = .returned (.bool (suitT al si alt ze gr pr t k)) ∧ Below w.heap.size w w' := by
  have hlt : decide (pr < 0) = (pr == -1) := by rw [Bool.eq_iff_iff]; simp; omega
  rcases okType_cases ht with rfl | ⟨b, rfl⟩
  · unfold suitT marksW
    clear ht
    by_cases e0 : k = 0
    · subst e0
      go_enter Tryd.func64, Tryd.ntmps64
      go_wp2
      all_goals go_ret
      all_goals refine ⟨ret_bool ?_, (by repeat (first | with_reducible exact Below.refl _ _ | with_reducible assumption | with_reducible refine Below.setCell ?_ (by first | omega | (simp; done) | (simp <;> omega)) _ | with_reducible refine below_drewN ?_ _ | with_reducible refine Below.drew ?_ | with_reducible refine Below.alloc ?_ (by first | omega | (simp; done) | (simp <;> omega)) _))⟩
      all_goals first | (simp_all; done) | (simp_all [bne]; done) | (simp_all; omega) | (simp_all [bne]; omega)
    by_cases e1 : k = 1
    · subst e1
      go_enter Tryd.func64, Tryd.ntmps64
      go_wp2
      all_goals go_ret
      all_goals refine ⟨ret_bool ?_, (by repeat (first | with_reducible exact Below.refl _ _ | with_reducible assumption | with_reducible refine Below.setCell ?_ (by first | omega | (simp; done) | (simp <;> omega)) _ | with_reducible refine below_drewN ?_ _ | with_reducible refine Below.drew ?_ | with_reducible refine Below.alloc ?_ (by first | omega | (simp; done) | (simp <;> omega)) _))⟩
      all_goals first | (simp_all; done) | (simp_all [bne]; done) | (simp_all; omega) | (simp_all [bne]; omega)
    by_cases e2 : k = 2
    · subst e2
      go_enter Tryd.func64, Tryd.ntmps64
      go_wp2
      all_goals go_ret
      all_goals refine ⟨ret_bool ?_, (by repeat (first | with_reducible exact Below.refl _ _ | with_reducible assumption | with_reducible refine Below.setCell ?_ (by first | omega | (simp; done) | (simp <;> omega)) _ | with_reducible refine below_drewN ?_ _ | with_reducible refine Below.drew ?_ | with_reducible refine Below.alloc ?_ (by first | omega | (simp; done) | (simp <;> omega)) _))⟩
      all_goals first | (simp_all; done) | (simp_all [bne]; done) | (simp_all; omega) | (simp_all [bne]; omega)
    go_enter Tryd.func64, Tryd.ntmps64
    go_wp2
    all_goals go_ret
    all_goals refine ⟨ret_bool ?_, (by repeat (first | with_reducible exact Below.refl _ _ | with_reducible assumption | with_reducible refine Below.setCell ?_ (by first | omega | (simp; done) | (simp <;> omega)) _ | with_reducible refine below_drewN ?_ _ | with_reducible refine Below.drew ?_ | with_reducible refine Below.alloc ?_ (by first | omega | (simp; done) | (simp <;> omega)) _))⟩
    all_goals first | (simp_all; done) | (simp_all [bne]; done) | (simp_all; omega) | (simp_all [bne]; omega)
  · unfold suitT marksW
    clear ht
    by_cases e0 : k = 0
    · subst e0
      go_enter Tryd.func64, Tryd.ntmps64
      go_wp2_with (first | (go_at_call 89; (with_reducible refine Calls.mono (kindOfS_one _ _) ?_); rintro r w1 ⟨rfl, rfl⟩))
      all_goals go_ret
      all_goals refine ⟨ret_bool ?_, (by repeat (first | with_reducible exact Below.refl _ _ | with_reducible assumption | with_reducible refine Below.setCell ?_ (by first | omega | (simp; done) | (simp <;> omega)) _ | with_reducible refine below_drewN ?_ _ | with_reducible refine Below.drew ?_ | with_reducible refine Below.alloc ?_ (by first | omega | (simp; done) | (simp <;> omega)) _))⟩
      all_goals first | (simp_all; done) | (simp_all [bne]; done) | (simp_all; omega) | (simp_all [bne]; omega)
    by_cases e1 : k = 1
    · subst e1
      go_enter Tryd.func64, Tryd.ntmps64
      go_wp2_with (first | (go_at_call 89; (with_reducible refine Calls.mono (kindOfS_one _ _) ?_); rintro r w1 ⟨rfl, rfl⟩))
      all_goals go_ret
      all_goals refine ⟨ret_bool ?_, (by repeat (first | with_reducible exact Below.refl _ _ | with_reducible assumption | with_reducible refine Below.setCell ?_ (by first | omega | (simp; done) | (simp <;> omega)) _ | with_reducible refine below_drewN ?_ _ | with_reducible refine Below.drew ?_ | with_reducible refine Below.alloc ?_ (by first | omega | (simp; done) | (simp <;> omega)) _))⟩
      all_goals first | (simp_all; done) | (simp_all [bne]; done) | (simp_all; omega) | (simp_all [bne]; omega)
    by_cases e2 : k = 2
    · subst e2
      go_enter Tryd.func64, Tryd.ntmps64
      go_wp2_with (first | (go_at_call 89; (with_reducible refine Calls.mono (kindOfS_one _ _) ?_); rintro r w1 ⟨rfl, rfl⟩))
      all_goals go_ret
      all_goals refine ⟨ret_bool ?_, (by repeat (first | with_reducible exact Below.refl _ _ | with_reducible assumption | with_reducible refine Below.setCell ?_ (by first | omega | (simp; done) | (simp <;> omega)) _ | with_reducible refine below_drewN ?_ _ | with_reducible refine Below.drew ?_ | with_reducible refine Below.alloc ?_ (by first | omega | (simp; done) | (simp <;> omega)) _))⟩
      all_goals first | (simp_all; done) | (simp_all [bne]; done) | (simp_all; omega) | (simp_all [bne]; omega)
    go_enter Tryd.func64, Tryd.ntmps64
    go_wp2_with (first | (go_at_call 89; (with_reducible refine Calls.mono (kindOfS_one _ _) ?_); rintro r w1 ⟨rfl, rfl⟩))
    all_goals go_ret
    all_goals refine ⟨ret_bool ?_, (by repeat (first | with_reducible exact Below.refl _ _ | with_reducible assumption | with_reducible refine Below.setCell ?_ (by first | omega | (simp; done) | (simp <;> omega)) _ | with_reducible refine below_drewN ?_ _ | with_reducible refine Below.drew ?_ | with_reducible refine Below.alloc ?_ (by first | omega | (simp; done) | (simp <;> omega)) _))⟩
    all_goals first | (simp_all; done) | (simp_all [bne]; done) | (simp_all; omega) | (simp_all [bne]; omega)
end Go.Proofs.YtbkdjldimmhbjaaDoor
