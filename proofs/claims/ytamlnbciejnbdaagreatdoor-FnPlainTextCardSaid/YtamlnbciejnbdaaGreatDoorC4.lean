import Derived.Test.YtamlnbciejnbdaaGreatDoorC3
import Derived.Test.YtamlnbciejnbdaaGreatDoorC2
import Derived.Deep.RegionHeld3
import Derived.RegionTactic
import Derived.IntWalk
namespace Go.Proofs.YtamlnbciejnbdaaGreatDoor
open Go.RowKit

/-- what was there before a region reads as it did -/
theorem keep0 (W : World) : (∀ b o, b < W.heap.size → W.drew.cell? ⟨b, o, none⟩ = W.cell? ⟨b, o, none⟩) ∧ Below W.heap.size W W.drew := ⟨fun _ _ _ => rfl, (Below.refl _ _).drew⟩
theorem keepA {W w0 w1 : World} (hS : (∀ b o, b < W.heap.size → w0.cell? ⟨b, o, none⟩ = W.cell? ⟨b, o, none⟩) ∧ Below W.heap.size W w0) (hb : Below w0.heap.size w0 w1) :
    (∀ b o, b < W.heap.size → w1.cell? ⟨b, o, none⟩ = W.cell? ⟨b, o, none⟩) ∧ Below W.heap.size W w1 :=
  have h := hS.2.trans (hb.mono hS.2.size)
  ⟨fun b o hlt => h.cell (p := ⟨b, o, none⟩) hlt, h⟩
theorem keepL {W w0 : World} (hS : (∀ b o, b < W.heap.size → w0.cell? ⟨b, o, none⟩ = W.cell? ⟨b, o, none⟩) ∧ Below W.heap.size W w0) (x : Obj) :
    (∀ b o, b < W.heap.size → (w0.alloc x).cell? ⟨b, o, none⟩ = W.cell? ⟨b, o, none⟩) ∧ Below W.heap.size W (w0.alloc x) :=
  have h := hS.2.alloc hS.2.size x
  ⟨fun b o hlt => h.cell (p := ⟨b, o, none⟩) hlt, h⟩
theorem keepS {W w0 : World} {p : Addr} (hS : (∀ b o, b < W.heap.size → w0.cell? ⟨b, o, none⟩ = W.cell? ⟨b, o, none⟩) ∧ Below W.heap.size W w0) (hp : W.heap.size ≤ p.block) (u : Value) :
    (∀ b o, b < W.heap.size → (w0.setCell p u).cell? ⟨b, o, none⟩ = W.cell? ⟨b, o, none⟩) ∧ Below W.heap.size W (w0.setCell p u) :=
  have h := hS.2.setCell hp u
  ⟨fun b o hlt => h.cell (p := ⟨b, o, none⟩) hlt, h⟩
theorem keepR {W w0 : World} {x : Obj} (hS : (∀ b o, b < W.heap.size → (w0.alloc x).cell? ⟨b, o, none⟩ = W.cell? ⟨b, o, none⟩) ∧ Below W.heap.size W (w0.alloc x)) (hz : W.heap.size ≤ w0.heap.size) (y : Obj) :
    (∀ b o, b < W.heap.size → (w0.alloc y).cell? ⟨b, o, none⟩ = W.cell? ⟨b, o, none⟩) ∧ Below W.heap.size W (w0.alloc y) := by
  have h0 : Below W.heap.size W w0 := by
    obtain ⟨h1, h2, h3, h4, h5⟩ := hS.2
    exact ⟨h1, h2, h3, hz, fun k hk => by rw [← h5 k hk, Below.heap_alloc _ _ _ (by omega)]⟩
  have h := h0.alloc hz y
  exact ⟨fun b o hlt => h.cell (p := ⟨b, o, none⟩) hlt, h⟩
theorem bmono {w0 w1 : World} (hb : Below w0.heap.size w0 w1) : ∀ n, n < w0.heap.size → n < w1.heap.size := fun _ h => Nat.lt_of_lt_of_le h hb.size
theorem bmono2 {p : Nat → Prop} {w0 w1 : World} (h : ∀ n, p n → n < w0.heap.size) (hb : Below w0.heap.size w0 w1) : ∀ n, p n → n < w1.heap.size := fun n h1 => Nat.lt_of_lt_of_le (h n h1) hb.size
theorem keepD {W w0 : World} (hS : (∀ b o, b < W.heap.size → w0.cell? ⟨b, o, none⟩ = W.cell? ⟨b, o, none⟩) ∧ Below W.heap.size W w0) :
    (∀ b o, b < W.heap.size → w0.drew.cell? ⟨b, o, none⟩ = W.cell? ⟨b, o, none⟩) ∧ Below W.heap.size W w0.drew := ⟨hS.1, hS.2.drew⟩
theorem keepB {W w0 w1 : World} (h : Below W.heap.size W w0) (hb : Below w0.heap.size w0 w1) : Below W.heap.size W w1 := h.trans (hb.mono h.size)

theorem ixp0 (w : World) : (Instr.index 116 (.agg #[.int .i64 1, .int .i64 10, .int .i64 100, .int .i64 1000, .int .i64 10000, .int .i64 100000, .int .i64 1000000, .int .i64 10000000, .int .i64 100000000, .int .i64 1000000000]) (.int .i64 0)).run Tryz.prog w = .ok (.int .i64 1) w := by kernel_rfl
theorem ixp1 (w : World) : (Instr.index 116 (.agg #[.int .i64 1, .int .i64 10, .int .i64 100, .int .i64 1000, .int .i64 10000, .int .i64 100000, .int .i64 1000000, .int .i64 10000000, .int .i64 100000000, .int .i64 1000000000]) (.int .i64 1)).run Tryz.prog w = .ok (.int .i64 10) w := by kernel_rfl
theorem ixp2 (w : World) : (Instr.index 116 (.agg #[.int .i64 1, .int .i64 10, .int .i64 100, .int .i64 1000, .int .i64 10000, .int .i64 100000, .int .i64 1000000, .int .i64 10000000, .int .i64 100000000, .int .i64 1000000000]) (.int .i64 2)).run Tryz.prog w = .ok (.int .i64 100) w := by kernel_rfl
theorem ixp3 (w : World) : (Instr.index 116 (.agg #[.int .i64 1, .int .i64 10, .int .i64 100, .int .i64 1000, .int .i64 10000, .int .i64 100000, .int .i64 1000000, .int .i64 10000000, .int .i64 100000000, .int .i64 1000000000]) (.int .i64 3)).run Tryz.prog w = .ok (.int .i64 1000) w := by kernel_rfl
theorem ixp4 (w : World) : (Instr.index 116 (.agg #[.int .i64 1, .int .i64 10, .int .i64 100, .int .i64 1000, .int .i64 10000, .int .i64 100000, .int .i64 1000000, .int .i64 10000000, .int .i64 100000000, .int .i64 1000000000]) (.int .i64 4)).run Tryz.prog w = .ok (.int .i64 10000) w := by kernel_rfl
theorem ixp5 (w : World) : (Instr.index 116 (.agg #[.int .i64 1, .int .i64 10, .int .i64 100, .int .i64 1000, .int .i64 10000, .int .i64 100000, .int .i64 1000000, .int .i64 10000000, .int .i64 100000000, .int .i64 1000000000]) (.int .i64 5)).run Tryz.prog w = .ok (.int .i64 100000) w := by kernel_rfl
theorem ixp6 (w : World) : (Instr.index 116 (.agg #[.int .i64 1, .int .i64 10, .int .i64 100, .int .i64 1000, .int .i64 10000, .int .i64 100000, .int .i64 1000000, .int .i64 10000000, .int .i64 100000000, .int .i64 1000000000]) (.int .i64 6)).run Tryz.prog w = .ok (.int .i64 1000000) w := by kernel_rfl
theorem ixp7 (w : World) : (Instr.index 116 (.agg #[.int .i64 1, .int .i64 10, .int .i64 100, .int .i64 1000, .int .i64 10000, .int .i64 100000, .int .i64 1000000, .int .i64 10000000, .int .i64 100000000, .int .i64 1000000000]) (.int .i64 7)).run Tryz.prog w = .ok (.int .i64 10000000) w := by kernel_rfl
theorem ixp8 (w : World) : (Instr.index 116 (.agg #[.int .i64 1, .int .i64 10, .int .i64 100, .int .i64 1000, .int .i64 10000, .int .i64 100000, .int .i64 1000000, .int .i64 10000000, .int .i64 100000000, .int .i64 1000000000]) (.int .i64 8)).run Tryz.prog w = .ok (.int .i64 100000000) w := by kernel_rfl
theorem ixp9 (w : World) : (Instr.index 116 (.agg #[.int .i64 1, .int .i64 10, .int .i64 100, .int .i64 1000, .int .i64 10000, .int .i64 100000, .int .i64 1000000, .int .i64 10000000, .int .i64 100000000, .int .i64 1000000000]) (.int .i64 9)).run Tryz.prog w = .ok (.int .i64 1000000000) w := by kernel_rfl
theorem index_pow (k : Int) (h0 : 0 ≤ k) (h9 : k ≤ 9) (w : World) :
    (Instr.index 116 (.agg #[.int .i64 1, .int .i64 10, .int .i64 100, .int .i64 1000, .int .i64 10000, .int .i64 100000, .int .i64 1000000, .int .i64 10000000, .int .i64 100000000, .int .i64 1000000000]) (.int .i64 k)).run Tryz.prog w = .ok (.int .i64 (Fd.p10 k)) w := by
  have hc : k = 0 ∨ k = 1 ∨ k = 2 ∨ k = 3 ∨ k = 4 ∨ k = 5 ∨ k = 6 ∨ k = 7 ∨ k = 8 ∨ k = 9 := by omega
  rcases hc with rfl | rfl | rfl | rfl | rfl | rfl | rfl | rfl | rfl | rfl
  · exact ixp0 w
  · exact ixp1 w
  · exact ixp2 w
  · exact ixp3 w
  · exact ixp4 w
  · exact ixp5 w
  · exact ixp6 w
  · exact ixp7 w
  · exact ixp8 w
  · exact ixp9 w
end Go.Proofs.YtamlnbciejnbdaaGreatDoor
