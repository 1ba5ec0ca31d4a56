import Derived.Test.YtejganoipbblcaaGreatDoorC3T
import Derived.Test.YtejganoipbblcaaGreatDoorY2
import Derived.Test.YtejganoipbblcaaGreatDoorN14
import Derived.Test.YtejganoipbblcaaGreatDoorY13
namespace Go.Proofs.YtejganoipbblcaaGreatDoor
open Go.RowKit
def tyBase (t : List UInt8) : Nat := if t = [98] then 2 else if t = [111] then 8 else if t = [120] ∨ t = [88] then 16 else 10
def tyPre (t : List UInt8) : List UInt8 := if t = [98] ∨ t = [111] ∨ t = [120] ∨ t = [88] then 48 :: t else []
def tyGrp (t : List UInt8) : Nat := if tyBase t = 10 then 3 else 4
def TyOk (t : List UInt8) : Prop := t = [] ∨ t = [100] ∨ t = [98] ∨ t = [111] ∨ t = [120] ∨ t = [88]
theorem TyOk.base {t : List UInt8} (h : TyOk t) : 2 ≤ tyBase t ∧ tyBase t ≤ 16 := by rcases h with rfl | rfl | rfl | rfl | rfl | rfl <;> decide
theorem TyOk.grp {t : List UInt8} (h : TyOk t) : tyGrp t = 3 ∨ tyGrp t = 4 := by rcases h with rfl | rfl | rfl | rfl | rfl | rfl <;> decide
theorem baseOf_ok (t : List UInt8) (h : TyOk t) (w : World) : Calls Tryz.prog 122 #[.string ⟨t.toArray⟩] w fun r w' => r = .returned (.int .i64 (tyBase t)) ∧ w = w' := by
  rcases h with rfl | rfl | rfl | rfl | rfl | rfl
  all_goals (
    go_enter Tryz.func122, Tryz.ntmps122
    go_wp2
    go_ret
    exact ⟨rfl, rfl⟩)
theorem prefixOf_ok (t : List UInt8) (h : TyOk t) (w : World) : Calls Tryz.prog 82 #[.string ⟨t.toArray⟩] w fun r w' => r = .returned (.string ⟨(tyPre t).toArray⟩) ∧ w = w' := by
  have kb := fun W => baseOf_ok t h W
  rcases h with rfl | rfl | rfl | rfl | rfl | rfl
  all_goals (
    go_enter Tryz.func82, Tryz.ntmps82
    go_wp2_with (go_at_call 122; (refine Calls.mono (kb _) ?_); rintro r w1 ⟨rfl, rfl⟩)
    go_ret
    exact ⟨rfl, rfl⟩)
theorem groupOf_ok (t : List UInt8) (h : TyOk t) (w : World) : Calls Tryz.prog 62 #[.int .i64 (tyBase t)] w fun r w' => r = .returned (.int .i64 (tyGrp t)) ∧ w = w' := by
  rcases h with rfl | rfl | rfl | rfl | rfl | rfl
  all_goals (
    go_enter Tryz.func62, Tryz.ntmps62
    go_wp2
    go_ret
    exact ⟨rfl, rfl⟩)
theorem baseOfS_ok (t : List UInt8) (h : TyOk t) (w : World) : Calls Tryz.prog 167 #[.string ⟨t.toArray⟩] w fun r w' => r = .returned (.int .i64 (tyBase t)) ∧ w = w' := by
  rcases h with rfl | rfl | rfl | rfl | rfl | rfl
  all_goals (
    go_enter Tryz.func167, Tryz.ntmps167
    go_wp2
    go_ret
    exact ⟨rfl, rfl⟩)
theorem prefixOfS_ok (t : List UInt8) (h : TyOk t) (w : World) : Calls Tryz.prog 165 #[.string ⟨t.toArray⟩] w fun r w' => r = .returned (.string ⟨(tyPre t).toArray⟩) ∧ w = w' := by
  rcases h with rfl | rfl | rfl | rfl | rfl | rfl
  all_goals (
    go_enter Tryz.func165, Tryz.ntmps165
    go_wp2
    go_ret
    exact ⟨rfl, rfl⟩)
theorem groupSizeS_ok (t : List UInt8) (h : TyOk t) (w : World) : Calls Tryz.prog 155 #[.string ⟨t.toArray⟩] w fun r w' => r = .returned (.int .i64 (tyGrp t)) ∧ w = w' := by
  have kb := fun W => baseOfS_ok t h W
  rcases h with rfl | rfl | rfl | rfl | rfl | rfl
  all_goals (
    go_enter Tryz.func155, Tryz.ntmps155
    go_wp2_with (go_at_call 167; (refine Calls.mono (kb _) ?_); rintro r w1 ⟨rfl, rfl⟩)
    go_ret
    exact ⟨rfl, rfl⟩)
/-- the mark of a grouping -/
def mkL (k : Int) : List UInt8 := if k = 1 then [44] else if k = 2 then [95] else []
theorem markAt_g (k : Int) (h0 : 0 ≤ k) (h1 : k ≤ 2) (w : World) : Calls Tryz.prog 63 #[.string ⟨#[44, 95]⟩, .int .i64 k] w fun r w' => r = .returned (.string ⟨(mkL k).toArray⟩) ∧ w = w' := by
  have hk : k = 0 ∨ k = 1 ∨ k = 2 := by omega
  rcases hk with rfl | rfl | rfl
  all_goals (
    go_enter Tryz.func63, Tryz.ntmps63
    go_wp2
    go_ret
    exact ⟨rfl, rfl⟩)
theorem markS_g (k : Int) (h0 : 0 ≤ k) (h1 : k ≤ 2) (w : World) : Calls Tryz.prog 153 #[.string ⟨#[44, 95]⟩, .int .i64 k] w fun r w' => r = .returned (.string ⟨(mkL k).toArray⟩) ∧ w = w' := by
  have hk : k = 0 ∨ k = 1 ∨ k = 2 := by omega
  rcases hk with rfl | rfl | rfl
  all_goals (
    go_enter Tryz.func153, Tryz.ntmps153
    go_wp2
    go_ret
    exact ⟨rfl, rfl⟩)
end Go.Proofs.YtejganoipbblcaaGreatDoor
