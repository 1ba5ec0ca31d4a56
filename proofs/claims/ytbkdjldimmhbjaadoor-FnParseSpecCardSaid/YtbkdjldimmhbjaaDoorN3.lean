import Derived.Test.YtbkdjldimmhbjaaDoorR2
import Derived.Deep.LoopGhost
namespace Go.Proofs.YtbkdjldimmhbjaaDoor
open Go.RowKit

/-- a list of numbers at block b, each of which is p -/
def NumsP (p : Int → Prop) (b len : Nat) (w : World) : Prop := b < w.heap.size ∧ ∀ i, i < len → ∃ y, w.cell? ⟨b, i, none⟩ = some (.int .i64 y) ∧ p y
theorem NumsP.keep {p : Int → Prop} {b len : Nat} {w w' : World} (h : NumsP p b len w) (hs : w.heap.size ≤ w'.heap.size) (hc : ∀ o, w'.cell? ⟨b, o, none⟩ = w.cell? ⟨b, o, none⟩) : NumsP p b len w' :=
  ⟨by have := h.1; omega, fun i hi => by rw [hc]; exact h.2 i hi⟩
theorem NumsP.new (p : Int → Prop) (w : World) (l : Array Value) (t : TypeId) (len : Nat) (hl : ∀ v ∈ l.toList, ∃ y, v = Value.int .i64 y ∧ p y) (hs : l.size = len) : NumsP p w.heap.size len (w.alloc (.cells l t)) := by
  subst hs
  refine ⟨by simp, fun i hi => ?_⟩
  have : (w.alloc (.cells l t)).cell? ⟨w.heap.size, i, none⟩ = l[i]? := by simp [go_sem]
  rw [this, Array.getElem?_eq_getElem hi]
  obtain ⟨y, hy, hp⟩ := hl l[i] (by simp)
  exact ⟨y, by rw [hy], hp⟩
theorem NumsP.kp {p : Int → Prop} {b len R : Nat} {w w' : World} (h : NumsP p b len w) (hk : Kp R w.heap.size w w') (hn : b ≠ R) : NumsP p b len w' :=
  h.keep hk.size fun _ => hk.cell h.1 hn
set_option maxHeartbeats 1000000 in
theorem one_p (p : Int → Prop) (R b len cap : Nat) (K : Int) (w : World) (h : Rd R K w) (hK : K ≤ 1000) (hn : b ≠ R) (hl : NumsP p b len w) (h1 : 1 ≤ len) :
    Calls Tryd.prog 62 #[.pointer (some ⟨R, 0, none⟩), .slice (some ⟨b, 0, none⟩) len cap] w fun r w' => (∃ y, r = .returned (.int .i64 y) ∧ p y) ∧ Rd R (K + 1) w' ∧ Kp R w.heap.size w w' := by
  go_enter Tryd.func62, Tryd.ntmps62
  go_wp2_with (go_at_call 35; refine (pick_any R len K w h hK).mono ?_; rintro r w1 ⟨⟨x, rfl, hx0, hx1⟩, hr, hk⟩; have hx2 := hx1 (by omega); (obtain ⟨y, hy, hp⟩ := (hl.kp hk hn).2 x.toNat (by omega)))
  go_ret
  exact ⟨⟨_, rfl, hp⟩, by assumption, by assumption⟩
/-- a list of texts at block b, each of which is p -/
def TextsP (p : ByteArray → Prop) (b len : Nat) (w : World) : Prop := b < w.heap.size ∧ ∀ i, i < len → ∃ y, w.cell? ⟨b, i, none⟩ = some (.string y) ∧ p y
theorem TextsP.keep {p : ByteArray → Prop} {b len : Nat} {w w' : World} (h : TextsP p b len w) (hs : w.heap.size ≤ w'.heap.size) (hc : ∀ o, w'.cell? ⟨b, o, none⟩ = w.cell? ⟨b, o, none⟩) : TextsP p b len w' :=
  ⟨by have := h.1; omega, fun i hi => by rw [hc]; exact h.2 i hi⟩
theorem TextsP.new (p : ByteArray → Prop) (w : World) (l : Array Value) (t : TypeId) (len : Nat) (hl : ∀ v ∈ l.toList, ∃ y, v = Value.string y ∧ p y) (hs : l.size = len) : TextsP p w.heap.size len (w.alloc (.cells l t)) := by
  subst hs
  refine ⟨by simp, fun i hi => ?_⟩
  have : (w.alloc (.cells l t)).cell? ⟨w.heap.size, i, none⟩ = l[i]? := by simp [go_sem]
  rw [this, Array.getElem?_eq_getElem hi]
  obtain ⟨y, hy, hp⟩ := hl l[i] (by simp)
  exact ⟨y, by rw [hy], hp⟩
theorem TextsP.kp {p : ByteArray → Prop} {b len R : Nat} {w w' : World} (h : TextsP p b len w) (hk : Kp R w.heap.size w w') (hn : b ≠ R) : TextsP p b len w' :=
  h.keep hk.size fun _ => hk.cell h.1 hn
set_option maxHeartbeats 1000000 in
theorem of_p (p : ByteArray → Prop) (R b len cap : Nat) (K : Int) (w : World) (h : Rd R K w) (hK : K ≤ 1000) (hn : b ≠ R) (hl : TextsP p b len w) (h1 : 1 ≤ len) :
    Calls Tryd.prog 63 #[.pointer (some ⟨R, 0, none⟩), .slice (some ⟨b, 0, none⟩) len cap] w fun r w' => (∃ y, r = .returned (.string y) ∧ p y) ∧ Rd R (K + 1) w' ∧ Kp R w.heap.size w w' := by
  go_enter Tryd.func63, Tryd.ntmps63
  go_wp2_with (go_at_call 35; refine (pick_any R len K w h hK).mono ?_; rintro r w1 ⟨⟨x, rfl, hx0, hx1⟩, hr, hk⟩; have hx2 := hx1 (by omega); (obtain ⟨y, hy, hp⟩ := (hl.kp hk hn).2 x.toNat (by omega)))
  go_ret
  exact ⟨⟨_, rfl, hp⟩, by assumption, by assumption⟩

theorem mem_one {a : ByteArray} {l : List Value} {p : ByteArray → Prop} (ha : p a) (h : ∀ v ∈ l, ∃ y, v = Value.string y ∧ p y) : ∀ v ∈ (Value.string a :: l), ∃ y, v = Value.string y ∧ p y := by
  intro v hv
  rcases List.mem_cons.1 hv with rfl | hv
  · exact ⟨_, rfl, ha⟩
  · exact h v hv
theorem mem_nil {p : ByteArray → Prop} : ∀ v ∈ ([] : List Value), ∃ y, v = Value.string y ∧ p y := fun v hv => by cases hv
end Go.Proofs.YtbkdjldimmhbjaaDoor
