import Derived.Test.YtffdgpahbdmacaaV2
import Derived.Test.YtffdgpahbdmacaaW0
namespace Go.Proofs.Ytffdgpahbdmacaa
open Go.RowKit
/-- the fill that a specification has -/
def fillW (v : Bool) (f : ByteArray) (ze : Bool) : ByteArray := if v then (if f.size = 0 then (if ze then ⟨#[48]⟩ else ⟨#[32]⟩) else f) else ⟨#[]⟩

set_option maxHeartbeats 4000000 in
theorem FillFor_any (f : ByteArray) (al si : Int) (alt ze : Bool) (wi gr pr : Int) (t : ByteArray) (w : World) :
    Calls Try.prog 16 #[.agg #[.string f, .int .i64 al, .int .i64 si, .bool alt, .bool ze, .int .i64 wi, .int .i64 gr, .int .i64 pr, .string t]] w fun r w' => r = .returned (.string (fillW (vSp f al si wi gr pr t) f ze)) ∧ Below w.heap.size w w' := by
  have k1 := fun W => ValidSpec_any f al si alt ze wi gr pr t W
  cases hv : vSp f al si wi gr pr t
  · rw [hv] at k1
    have K1 := Lib.hid k1
    clear k1
    go_enter Try.func16, Try.ntmps16
    go_wp2_with (first | (go_at_call 13; (with_reducible refine Calls.mono (K1.out _) ?_); rintro r w1 ⟨rfl, hb⟩; have hcc := fun o => hb.cell (p := ⟨w.heap.size, o, none⟩) (by simp); have hz := hb.size; (try simp at hz); have hB : Below w.heap.size w w1 := (by refine Below.trans ?_ (hb.mono (by first | omega | (simp; done) | (simp <;> omega))); repeat (first | with_reducible exact Below.refl _ _ | with_reducible assumption | with_reducible refine Below.setCell ?_ (by first | omega | (simp; done) | (simp <;> omega)) _ | with_reducible refine below_drewN ?_ _ | with_reducible refine Below.drew ?_ | with_reducible refine Below.alloc ?_ (by first | omega | (simp; done) | (simp <;> omega)) _))))
    all_goals go_ret
    all_goals exact ⟨ret_str rfl, (by repeat (first | with_reducible exact Below.refl _ _ | with_reducible assumption | with_reducible refine Below.setCell ?_ (by first | omega | (simp; done) | (simp <;> omega)) _ | with_reducible refine below_drewN ?_ _ | with_reducible refine Below.drew ?_ | with_reducible refine Below.alloc ?_ (by first | omega | (simp; done) | (simp <;> omega)) _))⟩
  rw [hv] at k1
  have K1 := Lib.hid k1
  clear k1 hv
  by_cases hf : f.size = 0
  · obtain rfl : f = ⟨#[]⟩ := by
      rcases bytes_cases f with h | ⟨b, rfl⟩ | h
      · exact h
      · exact absurd hf (by simp [ByteArray.size])
      · omega
    cases ze
    · go_enter Try.func16, Try.ntmps16
      go_wp2_with (first | (go_at_call 13; (with_reducible refine Calls.mono (K1.out _) ?_); rintro r w1 ⟨rfl, hb⟩; have hcc := fun o => hb.cell (p := ⟨w.heap.size, o, none⟩) (by simp); have hz := hb.size; (try simp at hz); have hB : Below w.heap.size w w1 := (by refine Below.trans ?_ (hb.mono (by first | omega | (simp; done) | (simp <;> omega))); repeat (first | with_reducible exact Below.refl _ _ | with_reducible assumption | with_reducible refine Below.setCell ?_ (by first | omega | (simp; done) | (simp <;> omega)) _ | with_reducible refine below_drewN ?_ _ | with_reducible refine Below.drew ?_ | with_reducible refine Below.alloc ?_ (by first | omega | (simp; done) | (simp <;> omega)) _))))
      all_goals go_ret
      all_goals exact ⟨ret_str rfl, (by repeat (first | with_reducible exact Below.refl _ _ | with_reducible assumption | with_reducible refine Below.setCell ?_ (by first | omega | (simp; done) | (simp <;> omega)) _ | with_reducible refine below_drewN ?_ _ | with_reducible refine Below.drew ?_ | with_reducible refine Below.alloc ?_ (by first | omega | (simp; done) | (simp <;> omega)) _))⟩
    · go_enter Try.func16, Try.ntmps16
      go_wp2_with (first | (go_at_call 13; (with_reducible refine Calls.mono (K1.out _) ?_); rintro r w1 ⟨rfl, hb⟩; have hcc := fun o => hb.cell (p := ⟨w.heap.size, o, none⟩) (by simp); have hz := hb.size; (try simp at hz); have hB : Below w.heap.size w w1 := (by refine Below.trans ?_ (hb.mono (by first | omega | (simp; done) | (simp <;> omega))); repeat (first | with_reducible exact Below.refl _ _ | with_reducible assumption | with_reducible refine Below.setCell ?_ (by first | omega | (simp; done) | (simp <;> omega)) _ | with_reducible refine below_drewN ?_ _ | with_reducible refine Below.drew ?_ | with_reducible refine Below.alloc ?_ (by first | omega | (simp; done) | (simp <;> omega)) _))))
      all_goals go_ret
      all_goals exact ⟨ret_str rfl, (by repeat (first | with_reducible exact Below.refl _ _ | with_reducible assumption | with_reducible refine Below.setCell ?_ (by first | omega | (simp; done) | (simp <;> omega)) _ | with_reducible refine below_drewN ?_ _ | with_reducible refine Below.drew ?_ | with_reducible refine Below.alloc ?_ (by first | omega | (simp; done) | (simp <;> omega)) _))⟩
  · have hn : f.toList.isEmpty = false := nonempty_list (by omega)
    have hx : fillW true f ze = f := by unfold fillW; rw [if_pos rfl, if_neg hf]
    have HX := Lib.hid hx
    clear hx hf
    go_enter Try.func16, Try.ntmps16
    go_wp2_with (first | (go_at_call 13; (with_reducible refine Calls.mono (K1.out _) ?_); rintro r w1 ⟨rfl, hb⟩; have hcc := fun o => hb.cell (p := ⟨w.heap.size, o, none⟩) (by simp); have hz := hb.size; (try simp at hz); have hB : Below w.heap.size w w1 := (by refine Below.trans ?_ (hb.mono (by first | omega | (simp; done) | (simp <;> omega))); repeat (first | with_reducible exact Below.refl _ _ | with_reducible assumption | with_reducible refine Below.setCell ?_ (by first | omega | (simp; done) | (simp <;> omega)) _ | with_reducible refine below_drewN ?_ _ | with_reducible refine Below.drew ?_ | with_reducible refine Below.alloc ?_ (by first | omega | (simp; done) | (simp <;> omega)) _))))
    all_goals go_ret
    all_goals exact ⟨ret_str HX.out.symm, (by repeat (first | with_reducible exact Below.refl _ _ | with_reducible assumption | with_reducible refine Below.setCell ?_ (by first | omega | (simp; done) | (simp <;> omega)) _ | with_reducible refine below_drewN ?_ _ | with_reducible refine Below.drew ?_ | with_reducible refine Below.alloc ?_ (by first | omega | (simp; done) | (simp <;> omega)) _))⟩

set_option maxHeartbeats 4000000 in
theorem FillForS_any (f : ByteArray) (al si : Int) (alt ze : Bool) (wi gr pr : Int) (t : ByteArray) (w : World) :
    Calls Try.prog 17 #[.agg #[.string f, .int .i64 al, .int .i64 si, .bool alt, .bool ze, .int .i64 wi, .int .i64 gr, .int .i64 pr, .string t]] w fun r w' => r = .returned (.string (fillW (vSp f al si wi gr pr t) f ze)) ∧ Below w.heap.size w w' := by
  have k1 := fun W => validSpecS_any f al si alt ze wi gr pr t W
  cases hv : vSp f al si wi gr pr t
  · rw [hv] at k1
    have K1 := Lib.hid k1
    clear k1
    go_enter Try.func17, Try.ntmps17
    go_wp2_with (first | (go_at_call 47; (with_reducible refine Calls.mono (K1.out _) ?_); rintro r w1 ⟨rfl, hb⟩; have hcc := fun o => hb.cell (p := ⟨w.heap.size, o, none⟩) (by simp); have hz := hb.size; (try simp at hz); have hB : Below w.heap.size w w1 := (by refine Below.trans ?_ (hb.mono (by first | omega | (simp; done) | (simp <;> omega))); repeat (first | with_reducible exact Below.refl _ _ | with_reducible assumption | with_reducible refine Below.setCell ?_ (by first | omega | (simp; done) | (simp <;> omega)) _ | with_reducible refine below_drewN ?_ _ | with_reducible refine Below.drew ?_ | with_reducible refine Below.alloc ?_ (by first | omega | (simp; done) | (simp <;> omega)) _))) | go_in)
    all_goals go_ret
    all_goals exact ⟨ret_str rfl, (by repeat (first | with_reducible exact Below.refl _ _ | with_reducible assumption | with_reducible refine Below.setCell ?_ (by first | omega | (simp; done) | (simp <;> omega)) _ | with_reducible refine below_drewN ?_ _ | with_reducible refine Below.drew ?_ | with_reducible refine Below.alloc ?_ (by first | omega | (simp; done) | (simp <;> omega)) _))⟩
  rw [hv] at k1
  have K1 := Lib.hid k1
  clear k1 hv
  by_cases hf : f.size = 0
  · obtain rfl : f = ⟨#[]⟩ := by
      rcases bytes_cases f with h | ⟨b, rfl⟩ | h
      · exact h
      · exact absurd hf (by simp [ByteArray.size])
      · omega
    cases ze
    · go_enter Try.func17, Try.ntmps17
      go_wp2_with (first | (go_at_call 47; (with_reducible refine Calls.mono (K1.out _) ?_); rintro r w1 ⟨rfl, hb⟩; have hcc := fun o => hb.cell (p := ⟨w.heap.size, o, none⟩) (by simp); have hz := hb.size; (try simp at hz); have hB : Below w.heap.size w w1 := (by refine Below.trans ?_ (hb.mono (by first | omega | (simp; done) | (simp <;> omega))); repeat (first | with_reducible exact Below.refl _ _ | with_reducible assumption | with_reducible refine Below.setCell ?_ (by first | omega | (simp; done) | (simp <;> omega)) _ | with_reducible refine below_drewN ?_ _ | with_reducible refine Below.drew ?_ | with_reducible refine Below.alloc ?_ (by first | omega | (simp; done) | (simp <;> omega)) _))) | go_in)
      all_goals go_ret
      all_goals exact ⟨ret_str rfl, (by repeat (first | with_reducible exact Below.refl _ _ | with_reducible assumption | with_reducible refine Below.setCell ?_ (by first | omega | (simp; done) | (simp <;> omega)) _ | with_reducible refine below_drewN ?_ _ | with_reducible refine Below.drew ?_ | with_reducible refine Below.alloc ?_ (by first | omega | (simp; done) | (simp <;> omega)) _))⟩
    · go_enter Try.func17, Try.ntmps17
      go_wp2_with (first | (go_at_call 47; (with_reducible refine Calls.mono (K1.out _) ?_); rintro r w1 ⟨rfl, hb⟩; have hcc := fun o => hb.cell (p := ⟨w.heap.size, o, none⟩) (by simp); have hz := hb.size; (try simp at hz); have hB : Below w.heap.size w w1 := (by refine Below.trans ?_ (hb.mono (by first | omega | (simp; done) | (simp <;> omega))); repeat (first | with_reducible exact Below.refl _ _ | with_reducible assumption | with_reducible refine Below.setCell ?_ (by first | omega | (simp; done) | (simp <;> omega)) _ | with_reducible refine below_drewN ?_ _ | with_reducible refine Below.drew ?_ | with_reducible refine Below.alloc ?_ (by first | omega | (simp; done) | (simp <;> omega)) _))) | go_in)
      all_goals go_ret
      all_goals exact ⟨ret_str rfl, (by repeat (first | with_reducible exact Below.refl _ _ | with_reducible assumption | with_reducible refine Below.setCell ?_ (by first | omega | (simp; done) | (simp <;> omega)) _ | with_reducible refine below_drewN ?_ _ | with_reducible refine Below.drew ?_ | with_reducible refine Below.alloc ?_ (by first | omega | (simp; done) | (simp <;> omega)) _))⟩
  · have hn : f.toList.isEmpty = false := nonempty_list (by omega)
    have hx : fillW true f ze = f := by unfold fillW; rw [if_pos rfl, if_neg hf]
    have HX := Lib.hid hx
    clear hx hf
    go_enter Try.func17, Try.ntmps17
    go_wp2_with (first | (go_at_call 47; (with_reducible refine Calls.mono (K1.out _) ?_); rintro r w1 ⟨rfl, hb⟩; have hcc := fun o => hb.cell (p := ⟨w.heap.size, o, none⟩) (by simp); have hz := hb.size; (try simp at hz); have hB : Below w.heap.size w w1 := (by refine Below.trans ?_ (hb.mono (by first | omega | (simp; done) | (simp <;> omega))); repeat (first | with_reducible exact Below.refl _ _ | with_reducible assumption | with_reducible refine Below.setCell ?_ (by first | omega | (simp; done) | (simp <;> omega)) _ | with_reducible refine below_drewN ?_ _ | with_reducible refine Below.drew ?_ | with_reducible refine Below.alloc ?_ (by first | omega | (simp; done) | (simp <;> omega)) _))) | go_in)
    all_goals go_ret
    all_goals exact ⟨ret_str HX.out.symm, (by repeat (first | with_reducible exact Below.refl _ _ | with_reducible assumption | with_reducible refine Below.setCell ?_ (by first | omega | (simp; done) | (simp <;> omega)) _ | with_reducible refine below_drewN ?_ _ | with_reducible refine Below.drew ?_ | with_reducible refine Below.alloc ?_ (by first | omega | (simp; done) | (simp <;> omega)) _))⟩
end Go.Proofs.Ytffdgpahbdmacaa
