import Derived.Test.YtfnmlcgnbmphlaaGreatDoorRC
import Derived.Test.YtfnmlcgnbmphlaaGreatDoorS6
import Derived.ProofKit
import Derived.Lib.SmallJoins
import Derived.Below
import Derived.ChangeSame
namespace Go.Proofs.YtfnmlcgnbmphlaaGreatDoor
open Go.ChangeShapes Go.WideShapes Go.ChangeAt Go.RowKit Go.Joins

theorem Tryz.cellsL : Tryz.prog.cellsOf 39 = 3 := by kernel_rfl
theorem readsDec {H : Type} {enc : TypeId × Value → H} {w : World} {base : Nat} {sp : Nat → Bool} {hd : Bool} (n : Bool) {c e : Int} (wc : (Lit.int .i64 c).wf = true) (we : (Lit.int .i64 e).wf = true) :
    DataW.Trod enc Tryz.prog w base sp hd 39 (.agg #[.bool n, .int .i64 c, .int .i64 e]) (.agg [.lit (.bool n), .lit (.int .i64 c), .lit (.int .i64 e)]) [] := by
  simpa using shut_agg3 (enc := enc) (w := w) (base := base) (spare := sp) (held := hd) (y0 := (.lit (.bool n), [])) (y1 := (.lit (.int .i64 c), [])) (y2 := (.lit (.int .i64 e), [])) Tryz.underlying39 (by kernel_rfl) Tryz.cellsL ⟨1, by simp [DataW.trod, Tryz.underlying4]⟩ ⟨1, by simp [DataW.trod, Tryz.underlying3, wc]⟩ ⟨1, by simp [DataW.trod, Tryz.underlying3, we]⟩

set_option maxHeartbeats 400000 in
theorem toDec_any (n : Bool) (c e : Int) (w : World) :
    Calls Tryz.prog 33 #[.agg #[.bool n, .int .i64 c, .int .i64 e]] w fun r w' => r = .returned (.agg #[.bool n, .int .i64 c, .int .i64 e]) ∧ Below w.heap.size w w' := by
  go_enter Tryz.func33, Tryz.ntmps33
  go_wp2
  exact bodyPost_ret (v := .agg #[.bool n, .int .i64 c, .int .i64 e]) (by simp [results, Tryz.results33, go_sem]) rfl ⟨rfl, (by repeat (first | with_reducible exact Below.refl _ _ | with_reducible assumption | with_reducible refine Below.setCell ?_ (by first | omega | (simp; done) | (simp <;> omega)) _ | with_reducible refine below_drewN ?_ _ | with_reducible refine Below.drew ?_ | with_reducible refine Below.alloc ?_ (by first | omega | (simp; done) | (simp <;> omega)) _))⟩

end Go.Proofs.YtfnmlcgnbmphlaaGreatDoor
