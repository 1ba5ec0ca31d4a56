import Derived.Test.YtehocgedlepajaaC3
import Derived.Test.YtehocgedlepajaaC2
import Derived.Deep.RegionHeld3
import Derived.RegionTactic
import Derived.IntWalk
namespace Go.Proofs.Ytehocgedlepajaa
open Go.RowKit

/-- what was there before a region reads as it did -/
theorem keep0 (W : World) : (∀ b o, b < W.heap.size → W.drew.cell? ⟨b, o, none⟩ = W.cell? ⟨b, o, none⟩) ∧ Below W.heap.size W W.drew := ⟨fun _ _ _ => rfl, (Below.refl _ _).drew⟩
theorem keepA {W w0 w1 : World} (hS : (∀ b o, b < W.heap.size → w0.cell? ⟨b, o, none⟩ = W.cell? ⟨b, o, none⟩) ∧ Below W.heap.size W w0) (hb : Below w0.heap.size w0 w1) :
    (∀ b o, b < W.heap.size → w1.cell? ⟨b, o, none⟩ = W.cell? ⟨b, o, none⟩) ∧ Below W.heap.size W w1 :=
  have h := hS.2.trans (hb.mono hS.2.size)
  ⟨fun b o hlt => h.cell (p := ⟨b, o, none⟩) hlt, h⟩
theorem keepL {W w0 : World} (hS : (∀ b o, b < W.heap.size → w0.cell? ⟨b, o, none⟩ = W.cell? ⟨b, o, none⟩) ∧ Below W.heap.size W w0) (x : Obj) :
    (∀ b o, b < W.heap.size → (w0.alloc x).cell? ⟨b, o, none⟩ = W.cell? ⟨b, o, none⟩) ∧ Below W.heap.size W (w0.alloc x) :=
  have h := hS.2.alloc hS.2.size x
  ⟨fun b o hlt => h.cell (p := ⟨b, o, none⟩) hlt, h⟩
theorem keepS {W w0 : World} {p : Addr} (hS : (∀ b o, b < W.heap.size → w0.cell? ⟨b, o, none⟩ = W.cell? ⟨b, o, none⟩) ∧ Below W.heap.size W w0) (hp : W.heap.size ≤ p.block) (u : Value) :
    (∀ b o, b < W.heap.size → (w0.setCell p u).cell? ⟨b, o, none⟩ = W.cell? ⟨b, o, none⟩) ∧ Below W.heap.size W (w0.setCell p u) :=
  have h := hS.2.setCell hp u
  ⟨fun b o hlt => h.cell (p := ⟨b, o, none⟩) hlt, h⟩
theorem keepR {W w0 : World} {x : Obj} (hS : (∀ b o, b < W.heap.size → (w0.alloc x).cell? ⟨b, o, none⟩ = W.cell? ⟨b, o, none⟩) ∧ Below W.heap.size W (w0.alloc x)) (hz : W.heap.size ≤ w0.heap.size) (y : Obj) :
    (∀ b o, b < W.heap.size → (w0.alloc y).cell? ⟨b, o, none⟩ = W.cell? ⟨b, o, none⟩) ∧ Below W.heap.size W (w0.alloc y) := by
  have h0 : Below W.heap.size W w0 := by
    obtain ⟨h1, h2, h3, h4, h5⟩ := hS.2
    exact ⟨h1, h2, h3, hz, fun k hk => by rw [← h5 k hk, Below.heap_alloc _ _ _ (by omega)]⟩
  have h := h0.alloc hz y
  exact ⟨fun b o hlt => h.cell (p := ⟨b, o, none⟩) hlt, h⟩
theorem bmono {w0 w1 : World} (hb : Below w0.heap.size w0 w1) : ∀ n, n < w0.heap.size → n < w1.heap.size := fun _ h => Nat.lt_of_lt_of_le h hb.size
theorem bmono2 {p : Nat → Prop} {w0 w1 : World} (h : ∀ n, p n → n < w0.heap.size) (hb : Below w0.heap.size w0 w1) : ∀ n, p n → n < w1.heap.size := fun n h1 => Nat.lt_of_lt_of_le (h n h1) hb.size
theorem keepD {W w0 : World} (hS : (∀ b o, b < W.heap.size → w0.cell? ⟨b, o, none⟩ = W.cell? ⟨b, o, none⟩) ∧ Below W.heap.size W w0) :
    (∀ b o, b < W.heap.size → w0.drew.cell? ⟨b, o, none⟩ = W.cell? ⟨b, o, none⟩) ∧ Below W.heap.size W w0.drew := ⟨hS.1, hS.2.drew⟩
theorem keepB {W w0 w1 : World} (h : Below W.heap.size W w0) (hb : Below w0.heap.size w0 w1) : Below W.heap.size W w1 := h.trans (hb.mono h.size)

theorem ixp0 (w : World) : (Instr.index 49 (.agg #[.int .i64 1, .int .i64 10, .int .i64 100, .int .i64 1000, .int .i64 10000, .int .i64 100000, .int .i64 1000000, .int .i64 10000000, .int .i64 100000000, .int .i64 1000000000]) (.int .i64 0)).run Try.prog w = .ok (.int .i64 1) w := by kernel_rfl
theorem ixp1 (w : World) : (Instr.index 49 (.agg #[.int .i64 1, .int .i64 10, .int .i64 100, .int .i64 1000, .int .i64 10000, .int .i64 100000, .int .i64 1000000, .int .i64 10000000, .int .i64 100000000, .int .i64 1000000000]) (.int .i64 1)).run Try.prog w = .ok (.int .i64 10) w := by kernel_rfl
theorem ixp2 (w : World) : (Instr.index 49 (.agg #[.int .i64 1, .int .i64 10, .int .i64 100, .int .i64 1000, .int .i64 10000, .int .i64 100000, .int .i64 1000000, .int .i64 10000000, .int .i64 100000000, .int .i64 1000000000]) (.int .i64 2)).run Try.prog w = .ok (.int .i64 100) w := by kernel_rfl
theorem ixp3 (w : World) : (Instr.index 49 (.agg #[.int .i64 1, .int .i64 10, .int .i64 100, .int .i64 1000, .int .i64 10000, .int .i64 100000, .int .i64 1000000, .int .i64 10000000, .int .i64 100000000, .int .i64 1000000000]) (.int .i64 3)).run Try.prog w = .ok (.int .i64 1000) w := by kernel_rfl
theorem ixp4 (w : World) : (Instr.index 49 (.agg #[.int .i64 1, .int .i64 10, .int .i64 100, .int .i64 1000, .int .i64 10000, .int .i64 100000, .int .i64 1000000, .int .i64 10000000, .int .i64 100000000, .int .i64 1000000000]) (.int .i64 4)).run Try.prog w = .ok (.int .i64 10000) w := by kernel_rfl
theorem ixp5 (w : World) : (Instr.index 49 (.agg #[.int .i64 1, .int .i64 10, .int .i64 100, .int .i64 1000, .int .i64 10000, .int .i64 100000, .int .i64 1000000, .int .i64 10000000, .int .i64 100000000, .int .i64 1000000000]) (.int .i64 5)).run Try.prog w = .ok (.int .i64 100000) w := by kernel_rfl
theorem ixp6 (w : World) : (Instr.index 49 (.agg #[.int .i64 1, .int .i64 10, .int .i64 100, .int .i64 1000, .int .i64 10000, .int .i64 100000, .int .i64 1000000, .int .i64 10000000, .int .i64 100000000, .int .i64 1000000000]) (.int .i64 6)).run Try.prog w = .ok (.int .i64 1000000) w := by kernel_rfl
theorem ixp7 (w : World) : (Instr.index 49 (.agg #[.int .i64 1, .int .i64 10, .int .i64 100, .int .i64 1000, .int .i64 10000, .int .i64 100000, .int .i64 1000000, .int .i64 10000000, .int .i64 100000000, .int .i64 1000000000]) (.int .i64 7)).run Try.prog w = .ok (.int .i64 10000000) w := by kernel_rfl
theorem ixp8 (w : World) : (Instr.index 49 (.agg #[.int .i64 1, .int .i64 10, .int .i64 100, .int .i64 1000, .int .i64 10000, .int .i64 100000, .int .i64 1000000, .int .i64 10000000, .int .i64 100000000, .int .i64 1000000000]) (.int .i64 8)).run Try.prog w = .ok (.int .i64 100000000) w := by kernel_rfl
theorem ixp9 (w : World) : (Instr.index 49 (.agg #[.int .i64 1, .int .i64 10, .int .i64 100, .int .i64 1000, .int .i64 10000, .int .i64 100000, .int .i64 1000000, .int .i64 10000000, .int .i64 100000000, .int .i64 1000000000]) (.int .i64 9)).run Try.prog w = .ok (.int .i64 1000000000) w := by kernel_rfl
theorem index_pow (k : Int) (h0 : 0 ≤ k) (h9 : k ≤ 9) (w : World) :
    (Instr.index 49 (.agg #[.int .i64 1, .int .i64 10, .int .i64 100, .int .i64 1000, .int .i64 10000, .int .i64 100000, .int .i64 1000000, .int .i64 10000000, .int .i64 100000000, .int .i64 1000000000]) (.int .i64 k)).run Try.prog w = .ok (.int .i64 (Fd.p10 k)) w := by
  have hc : k = 0 ∨ k = 1 ∨ k = 2 ∨ k = 3 ∨ k = 4 ∨ k = 5 ∨ k = 6 ∨ k = 7 ∨ k = 8 ∨ k = 9 := by omega
  rcases hc with rfl | rfl | rfl | rfl | rfl | rfl | rfl | rfl | rfl | rfl
  · exact ixp0 w
  · exact ixp1 w
  · exact ixp2 w
  · exact ixp3 w
  · exact ixp4 w
  · exact ixp5 w
  · exact ixp6 w
  · exact ixp7 w
  · exact ixp8 w
  · exact ixp9 w

set_option maxHeartbeats 1000000 in
theorem stretched_any (n : Bool) (c e : Int) (w : World) (h0 : 0 ≤ c) (h1 : c ≤ 999999999) :
    Calls Try.prog 84 #[.agg #[.bool n, .int .i64 c, .int .i64 e]] w fun r w' => r = .returned (.int .i64 (Fd.stretch ⟨n, c, e⟩)) ∧ Below w.heap.size w w' := by
  have hd0 := Fd.dc_nonneg c
  have hd := Fd.dc_le9 h1
  have hix := fun W => index_pow (9 - Fd.dc c) (by omega) (by omega) W
  go_enter Try.func84, Try.ntmps84
  go_wp2
  have b0 : Below w.heap.size w (w.alloc (.cells #[.bool n, .int .i64 c, .int .i64 e] 24)) := (Below.refl _ _).alloc (Nat.le_refl _) _
  have c0 : (w.alloc (.cells #[.bool n, .int .i64 c, .int .i64 e] 24)).cell? ⟨w.heap.size, 0, none⟩ = some (.bool n) := by simp
  have c1 : (w.alloc (.cells #[.bool n, .int .i64 c, .int .i64 e] 24)).cell? ⟨w.heap.size, 1, none⟩ = some (.int .i64 c) := by simp
  have c2 : (w.alloc (.cells #[.bool n, .int .i64 c, .int .i64 e] 24)).cell? ⟨w.heap.size, 2, none⟩ = some (.int .i64 e) := by simp
  have z0 : w.heap.size < (w.alloc (.cells #[.bool n, .int .i64 c, .int .i64 e] 24)).heap.size := by simp
  generalize w.alloc (.cells #[.bool n, .int .i64 c, .int .i64 e] 24) = W at *
  have hwr : IntKind.i64.wrap (9 - Fd.dc c) = 9 - Fd.dc c := IntWalk.i64_in _ (by omega)
  have hst : IntKind.i64.wrap (c * Fd.p10 (9 - Fd.dc c)) = c * Fd.p10 (9 - Fd.dc c) := IntWalk.i64_in _ (by
    have h := Fd.stretch_bd n e h0 h1; unfold Fd.stretch at h; simp only at h; omega)
  go_region_held3 (fun w' => (∀ b o, b < W.heap.size → w'.cell? ⟨b, o, none⟩ = W.cell? ⟨b, o, none⟩) ∧ Below W.heap.size W w')
    (first | assumption | exact keep0 W | exact keepA (by assumption) hb)
    (first | (go_at_call 66; refine (powers_any _).mono ?_; rintro r w1 ⟨rfl, hb⟩) | (go_at_call 73; refine (digits_any _ _ _ _ h1).mono ?_; rintro r w1 ⟨rfl, hb⟩))
  go_wp2
  go_ret
  exact ⟨rfl, b0.trans ((keepA (by assumption) (Below.refl _ _)).2.mono (by omega))⟩
end Go.Proofs.Ytehocgedlepajaa
