import Derived.Test.YtbkdjldimmhbjaaDoorW3
import Derived.Test.YtbkdjldimmhbjaaDoorW4
namespace Go.Proofs.YtbkdjldimmhbjaaDoor
open Go.RowKit

def stW (v : Bool) (f : ByteArray) (al si : Int) (alt ze : Bool) (wi gr pr : Int) (t : ByteArray) : ByteArray := if v then ⟨(spL f.data.toList al si alt ze wi gr pr t.data.toList).toArray⟩ else ⟨#[]⟩
set_option maxHeartbeats 4000000 in
theorem SpecText_any (f : ByteArray) (al si : Int) (alt ze : Bool) (wi gr pr : Int) (t : ByteArray) (w : World) :
    Calls Tryd.prog 15 #[.agg #[.string f, .int .i64 al, .int .i64 si, .bool alt, .bool ze, .int .i64 wi, .int .i64 gr, .int .i64 pr, .string t]] w fun r w' => r = .returned (.string (stW (vSp f al si wi gr pr t) f al si alt ze wi gr pr t)) ∧ Below w.heap.size w w' := by
  have k1 := fun W => ValidSpec_any f al si alt ze wi gr pr t W
  cases hv : vSp f al si wi gr pr t
  · rw [hv] at k1
    have K1 := Lib.hid k1
    clear k1
    go_enter Tryd.func15, Tryd.ntmps15
    go_wp2_with (first | (go_at_call 16; (with_reducible refine Calls.mono (K1.out _) ?_); rintro r w1 ⟨rfl, hb⟩; (first | (have hcc := fun o => hb.cell (p := ⟨w.heap.size, o, none⟩) (by first | omega | (simp; done) | (simp <;> omega))) | skip); have hz := hb.size; (try simp at hz); have hB : Below w.heap.size w w1 := (by refine Below.trans ?_ (hb.mono (by first | omega | (simp; done) | (simp <;> omega))); repeat (first | with_reducible exact Below.refl _ _ | with_reducible assumption | with_reducible refine Below.setCell ?_ (by first | omega | (simp; done) | (simp <;> omega)) _ | with_reducible refine below_drewN ?_ _ | with_reducible refine Below.drew ?_ | with_reducible refine Below.alloc ?_ (by first | omega | (simp; done) | (simp <;> omega)) _))))
    all_goals go_ret
    all_goals exact ⟨ret_str rfl, (by repeat (first | with_reducible exact Below.refl _ _ | with_reducible assumption | with_reducible refine Below.setCell ?_ (by first | omega | (simp; done) | (simp <;> omega)) _ | with_reducible refine below_drewN ?_ _ | with_reducible refine Below.drew ?_ | with_reducible refine Below.alloc ?_ (by first | omega | (simp; done) | (simp <;> omega)) _))⟩
  · rw [hv] at k1
    have V := vSp_open hv
    have ef := of_list f
    have et := of_list t
    rw [show stW true f al si alt ze wi gr pr t = ⟨(spL f.data.toList al si alt ze wi gr pr t.data.toList).toArray⟩ from rfl]
    generalize f.data.toList = F at *
    generalize t.data.toList = T at *
    subst ef et
    exact SpecText_ok F T al si alt ze wi gr pr w V k1
end Go.Proofs.YtbkdjldimmhbjaaDoor
