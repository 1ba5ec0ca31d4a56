import Derived.Test.YtebheehjhnaklaaGreatDoorN3
import Derived.Test.YtebheehjhnaklaaGreatDoorV8
import Derived.Deep.DeepCutAuto
import Derived.Deep.Light
namespace Go.Proofs.YtebheehjhnaklaaGreatDoor
open Go.RowKit
/-- some specification -/
theorem C9.kp {R g : Nat} {w w' : World} {v0 v1 v2 v3 v4 v5 v6 v7 v8 : Value} (h : C9 w g v0 v1 v2 v3 v4 v5 v6 v7 v8) (hk : Kp R w.heap.size w w') (hn : g ≠ R) : C9 w' g v0 v1 v2 v3 v4 v5 v6 v7 v8 :=
  h.keep hk.size (fun _ => hk.cell h.lt hn) (fun _ => hk.frozen h.lt hn)
def IsSp (r : Ending) : Prop := ∃ f al si alt ze wi gr pr t, r = .returned (.agg #[.string f, .int .i64 al, .int .i64 si, .bool alt, .bool ze, .int .i64 wi, .int .i64 gr, .int .i64 pr, .string t])
theorem IsSp.mk (f : ByteArray) (al si : Int) (alt ze : Bool) (wi gr pr : Int) (t : ByteArray) : IsSp (.returned (.agg #[.string f, .int .i64 al, .int .i64 si, .bool alt, .bool ze, .int .i64 wi, .int .i64 gr, .int .i64 pr, .string t])) := ⟨f, al, si, alt, ze, wi, gr, pr, t, rfl⟩
theorem C9.kp_of {W0 V w1 : World} {R g : Nat} {u0 u1 u2 u3 u4 u5 u6 u7 u8 v0 v1 v2 v3 v4 v5 v6 v7 v8 : Value} (_ : C9 W0 g u0 u1 u2 u3 u4 u5 u6 u7 u8) (h : C9 V g v0 v1 v2 v3 v4 v5 v6 v7 v8) (hk : Kp R V.heap.size V w1) (hn : g ≠ R) : C9 w1 g v0 v1 v2 v3 v4 v5 v6 v7 v8 := h.kp hk hn
theorem one_of {W0 : World} {R b len cap : Nat} {K : Int} {w : World} (_ : Rd R K W0) (h : Rd R K w) (hK : K ≤ 1000) (hn : b ≠ R) (hl : Nums b len w) (h1 : 1 ≤ len) :
    Calls Tryz.prog 42 #[.pointer (some ⟨R, 0, none⟩), .slice (some ⟨b, 0, none⟩) len cap] w fun r w' => (∃ y, r = .returned (.int .i64 y)) ∧ Rd R (K + 1) w' ∧ Kp R w.heap.size w w' := one_any R b len cap K w h hK hn hl h1
theorem of_of {W0 : World} {R b len cap : Nat} {K : Int} {w : World} (_ : Rd R K W0) (h : Rd R K w) (hK : K ≤ 1000) (hn : b ≠ R) (hl : Texts b len w) (h1 : 1 ≤ len) :
    Calls Tryz.prog 72 #[.pointer (some ⟨R, 0, none⟩), .slice (some ⟨b, 0, none⟩) len cap] w fun r w' => (∃ y, r = .returned (.string y)) ∧ Rd R (K + 1) w' ∧ Kp R w.heap.size w w' := of_any R b len cap K w h hK hn hl h1
theorem pick_of {W0 : World} {R : Nat} (n : Int) {K : Int} {w : World} (_ : Rd R K W0) (h : Rd R K w) (hK : K ≤ 1000) :
    Calls Tryz.prog 70 #[.pointer (some ⟨R, 0, none⟩), .int .i64 n] w fun r w' => (∃ x, r = .returned (.int .i64 x) ∧ 0 ≤ x ∧ (1 ≤ n → x < n)) ∧ Rd R (K + 1) w' ∧ Kp R w.heap.size w w' := pick_any R n K w h hK
theorem Nums.at_ (w : World) (l : Array Value) (t : TypeId) (len b : Nat) (hb : b = w.heap.size) (hl : ∀ v ∈ l.toList, ∃ y, v = Value.int .i64 y) (hs : l.size = len) : Nums b len (w.alloc (.cells l t)) := by
  subst hb
  exact Nums.new w l t len hl hs
theorem Texts.at_ (w : World) (l : Array Value) (t : TypeId) (len b : Nat) (hb : b = w.heap.size) (hl : ∀ v ∈ l.toList, ∃ y, v = Value.string y) (hs : l.size = len) : Texts b len (w.alloc (.cells l t)) := by
  subst hb
  exact Texts.new w l t len hl hs
/-- what the draw of a specification holds between its steps: the result's block, the specification's block g -/
def Mid (R : Nat) (K : Int) (w : World) (g : Nat) (wx : World) : Prop :=
  Rd R K wx ∧ Kp R w.heap.size w wx ∧ C9 wx w.heap.size (.string ⟨#[]⟩) (.int .i64 0) (.int .i64 0) (.bool false) (.bool false) (.int .i64 0) (.int .i64 0) (.int .i64 0) (.string ⟨#[]⟩) ∧ w.heap.size + 1 ≤ g ∧ g ≠ R ∧
  ∃ f al si alt ze wi gr pr t, C9 wx g (.string f) (.int .i64 al) (.int .i64 si) (.bool alt) (.bool ze) (.int .i64 wi) (.int .i64 gr) (.int .i64 pr) (.string t)
theorem Mid.mk {R : Nat} {K K' : Int} {w : World} {g : Nat} {wx W0 : World} {f : ByteArray} {al si : Int} {alt ze : Bool} {wi gr pr : Int} {t : ByteArray} (_ : Rd R K' W0) (hr : Rd R K' wx) (hle : K' ≤ K) (hk : Kp R w.heap.size w wx) (zr : C9 wx w.heap.size (.string ⟨#[]⟩) (.int .i64 0) (.int .i64 0) (.bool false) (.bool false) (.int .i64 0) (.int .i64 0) (.int .i64 0) (.string ⟨#[]⟩)) (hg : w.heap.size + 1 ≤ g) (hn : g ≠ R)
    (zs : C9 wx g (.string f) (.int .i64 al) (.int .i64 si) (.bool alt) (.bool ze) (.int .i64 wi) (.int .i64 gr) (.int .i64 pr) (.string t)) : Mid R K w g wx := ⟨hr.mono hle, hk, zr, hg, hn, f, al, si, alt, ze, wi, gr, pr, t, zs⟩
def IsB (r : Ending) : Prop := ∃ b, r = .returned (.bool b)
theorem IsB.mk (c : Bool) : IsB (.returned (.bool c)) := ⟨c, rfl⟩
set_option maxHeartbeats 2000000 in
theorem kindOfS_some (t : ByteArray) (w : World) :
    Calls Tryz.prog 132 #[.string t] w fun r w' => (∃ n, r = .returned (.int .i64 n)) ∧ w = w' := by
  go_enter Tryz.func132, Tryz.ntmps132
  go_wp2
  all_goals go_ret
  all_goals exact ⟨⟨_, rfl⟩, rfl⟩
set_option maxHeartbeats 4000000 in
theorem suitsS_some (f : ByteArray) (al si : Int) (alt ze : Bool) (wi gr pr : Int) (t : ByteArray) (k : Int) (w : World) :
    Calls Tryz.prog 81 #[.agg #[.string f, .int .i64 al, .int .i64 si, .bool alt, .bool ze, .int .i64 wi, .int .i64 gr, .int .i64 pr, .string t], .int .i64 k] w fun r w' => IsB r ∧ Below w.heap.size w w' := by
  go_enter Tryz.func81, Tryz.ntmps81
  go_wp2_with (go_at_call 132; (with_reducible refine Calls.mono (kindOfS_some _ _) ?_); rintro r w1 ⟨⟨n, rfl⟩, rfl⟩)
  all_goals go_ret
  all_goals exact ⟨IsB.mk _, (by repeat (first | with_reducible exact Below.refl _ _ | with_reducible assumption | with_reducible refine Below.setCell ?_ (by first | omega | (simp; done) | (simp <;> omega)) _ | with_reducible refine below_drewN ?_ _ | with_reducible refine Below.drew ?_ | with_reducible refine Below.alloc ?_ (by first | omega | (simp; done) | (simp <;> omega)) _))⟩
end Go.Proofs.YtebheehjhnaklaaGreatDoor
