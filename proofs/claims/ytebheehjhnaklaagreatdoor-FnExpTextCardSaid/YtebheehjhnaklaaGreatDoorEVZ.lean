import Derived.Test.YtebheehjhnaklaaGreatDoorN6
import Derived.Test.YtebheehjhnaklaaGreatDoorRC
import Derived.Test.YtebheehjhnaklaaGreatDoorRows
import Derived.Test.YtebheehjhnaklaaGreatDoorRR9
import Derived.Lib.AppendIntMem
import Derived.LaidMore
import Derived.Lib.LaidTab
import Derived.Stop.LaidErr
namespace Go.Proofs.YtebheehjhnaklaaGreatDoor
open Go Go.RowKit
theorem p10_is {W : World} {x y : String × DataW Unit} {r : List (String × DataW Unit)} (h : laidMet Tryz.prog (x :: y :: ("internal/strconv.uint64pow10", Rows.laid_internal_strconv_uint64pow10) :: r) W) :
    Lib.TabIs Tryz.prog W "internal/strconv.uint64pow10" .u64 Lib.pow10Tab :=
  Lib.tabIs_of_head (g := 6) (t := 232) (e := 197) (n := 20) (by kernel_rfl) (by kernel_rfl) Tryz.underlying232 Tryz.underlying197 (by kernel_rfl) (by kernel_rfl) (laidMet.tail (laidMet.tail h))
end Go.Proofs.YtebheehjhnaklaaGreatDoor
namespace Go.Proofs.YtebheehjhnaklaaGreatDoor
open Go Go.RowKit Go.ChangeShapes
theorem star_es : "*" ++ "errors.errorString" = "*errors.errorString" := by decide
theorem row_es (u : TypeId) (h : Tryz.prog.typeName? 3 u = some "*errors.errorString") : u = 220 :=
  typeName_ptr_named (nm := "errors.errorString") (by rw [star_es]; kernel_rfl) (by kernel_rfl) (by decide) u (by rw [star_es]; exact h)
theorem cells_es : Tryz.prog.cellsOf 222 = 1 := by kernel_rfl
theorem cells_str : Tryz.prog.cellsOf 9 = 1 := by kernel_rfl
theorem under_err : ∃ ms, Tryz.prog.underlying 113 = some (.interface ms) := ⟨_, Tryz.underlying113⟩
theorem erv_one {n : String} {g : Nat} {text : List UInt8} {r : List (String × DataW Unit)} {W : World} (h : laidMet Tryz.prog ((n, .iface "*errors.errorString" (.ptr (.agg [.lit (.string text)]))) :: r) W)
    (hg : Tryz.prog.globalNamed n = some g) (ht : (Tryz.prog.globals[g]?).map (·.type) = some 113) : ∃ t p, W.cell? ⟨g, 0, none⟩ = some (.iface t p) := by
  obtain ⟨ms, hm⟩ := under_err
  obtain ⟨a1, s1, hv, _⟩ := laid_sentinel h hg ht hm row_es Tryz.underlying220 Tryz.underlying222 rfl rfl Tryz.underlying9 cells_es cells_str
  exact ⟨_, _, by simpa using World.var?_cell hg hv 0⟩
theorem erv_of {W : World} {a b c d : String × DataW Unit} {r : List (String × DataW Unit)}
    (h : laidMet Tryz.prog (a :: b :: c :: d :: ("strconv.ErrRange", Rows.laid_strconv_ErrRange) :: ("strconv.ErrSyntax", Rows.laid_strconv_ErrSyntax) :: r) W) : ErV W := by
  have h4 := laidMet.tail (laidMet.tail (laidMet.tail (laidMet.tail h)))
  have h5 := laidMet.tail h4
  exact ⟨erv_one h5 (by kernel_rfl) (by kernel_rfl), erv_one h4 (by kernel_rfl) (by kernel_rfl)⟩
end Go.Proofs.YtebheehjhnaklaaGreatDoor
