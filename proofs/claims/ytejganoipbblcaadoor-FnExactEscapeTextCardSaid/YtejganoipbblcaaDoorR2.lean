import Derived.Test.YtejganoipbblcaaDoorR1
namespace Go.Proofs.YtejganoipbblcaaDoor
open Go.RowKit

/-- a list of numbers at block b -/
def Nums (b len : Nat) (w : World) : Prop := b < w.heap.size ∧ ∀ i, i < len → ∃ y, w.cell? ⟨b, i, none⟩ = some (.int .i64 y)
theorem Nums.keep {b len : Nat} {w w' : World} (h : Nums b len w) (hs : w.heap.size ≤ w'.heap.size) (hc : ∀ o, w'.cell? ⟨b, o, none⟩ = w.cell? ⟨b, o, none⟩) : Nums b len w' :=
  ⟨by have := h.1; omega, fun i hi => by rw [hc]; exact h.2 i hi⟩
theorem Nums.new (w : World) (l : Array Value) (t : TypeId) (len : Nat) (hl : ∀ v ∈ l.toList, ∃ y, v = Value.int .i64 y) (hs : l.size = len) : Nums w.heap.size len (w.alloc (.cells l t)) := by
  subst hs
  refine ⟨by simp, fun i hi => ?_⟩
  have : (w.alloc (.cells l t)).cell? ⟨w.heap.size, i, none⟩ = l[i]? := by simp [go_sem]
  rw [this, Array.getElem?_eq_getElem hi]
  obtain ⟨y, hy⟩ := hl l[i] (by simp)
  exact ⟨y, by rw [hy]⟩
theorem Nums.up {b len : Nat} {w : World} (h : Nums b len w) (x : Obj) : Nums b len (w.alloc x) :=
  have hb : Below w.heap.size w (w.alloc x) := (Below.refl _ _).alloc (Nat.le_refl _) _
  h.keep hb.size fun o => hb.cell (p := ⟨b, o, none⟩) h.1
theorem Nums.kp {b len R : Nat} {w w' : World} (h : Nums b len w) (hk : Kp R w.heap.size w w') (hn : b ≠ R) : Nums b len w' :=
  h.keep hk.size fun _ => hk.cell h.1 hn

theorem Kp.refl (R B : Nat) (w : World) : Kp R B w w := ⟨rfl, rfl, rfl, Nat.le_refl _, fun _ _ _ => rfl, fun _ => rfl⟩
theorem Kp.step {R : Nat} {a b c : World} (h : Kp R a.heap.size a b) (k : Kp R b.heap.size b c) : Kp R a.heap.size a c :=
  ⟨k.os.trans h.os, k.tape.trans h.tape, k.output.trans h.output, Nat.le_trans h.size k.size, fun i hi hn => (k.block i (Nat.lt_of_lt_of_le hi h.size) hn).trans (h.block i hi hn), fun o => (k.froz o).trans (h.froz o)⟩
theorem Kp.of_below {R : Nat} {a b : World} (h : Below a.heap.size a b) (hR : R < a.heap.size) : Kp R a.heap.size a b :=
  ⟨h.os, h.tape, h.output, h.size, fun k hk _ => h.block k hk, fun o => h.frozen (p := ⟨R, o, none⟩) hR⟩
theorem Kp.up {R : Nat} {a b : World} (h : Kp R a.heap.size a b) (hR : R < b.heap.size) (x : Obj) : Kp R a.heap.size a (b.alloc x) :=
  h.step (Kp.of_below ((Below.refl _ _).alloc (Nat.le_refl _) _) hR)
theorem Kp.set {R : Nat} {a b : World} (h : Kp R a.heap.size a b) {g : Nat} (hg : a.heap.size ≤ g) (o : Nat) (v : Value) : Kp R a.heap.size a (b.setCell ⟨g, o, none⟩ v) :=
  have h0 : Below g b (b.setCell ⟨g, o, none⟩ v) := Below.setCell (p := ⟨g, o, none⟩) (Below.refl g b) (Nat.le_refl _) v
  ⟨h.os, h.tape, h.output, Nat.le_trans h.size h0.size, fun k hk hn => (h0.block k (by omega)).trans (h.block k hk hn), fun o' => (set_frozen _ _ _ _ _).trans (h.froz o')⟩

set_option maxHeartbeats 1000000 in
theorem one_any (R b len cap : Nat) (K : Int) (w : World) (h : Rd R K w) (hK : K ≤ 1000) (hn : b ≠ R) (hl : Nums b len w) (h1 : 1 ≤ len) :
    Calls Tryd.prog 49 #[.pointer (some ⟨R, 0, none⟩), .slice (some ⟨b, 0, none⟩) len cap] w fun r w' => (∃ y, r = .returned (.int .i64 y)) ∧ Rd R (K + 1) w' ∧ Kp R w.heap.size w w' := by
  go_enter Tryd.func49, Tryd.ntmps49
  go_wp2_with (go_at_call 30; refine (pick_any R len K w h hK).mono ?_; rintro r w1 ⟨⟨x, rfl, hx0, hx1⟩, hr, hk⟩; have hx2 := hx1 (by omega); (obtain ⟨y, hy⟩ := (hl.kp hk hn).2 x.toNat (by omega)))
  go_ret
  exact ⟨⟨_, rfl⟩, by assumption, by assumption⟩

theorem Kp.drew {R B : Nat} {a w : World} (h : Kp R B a w) : Kp R B a w.drew := ⟨h.os, h.tape, h.output, h.size, h.block, h.froz⟩

theorem CodeAt.up {s : Option Addr} {len : Nat} {w : World} (h : CodeAt s len w.heap.size w) (x : Obj) : CodeAt s len (w.alloc x).heap.size (w.alloc x) :=
  have hb : Below w.heap.size w (w.alloc x) := (Below.refl _ _).alloc (Nat.le_refl _) _
  (h.keep fun b o hlt => hb.cell (p := ⟨b, o, none⟩) hlt).wide hb.size
theorem below_kp {R : Nat} {w wa wb : World} (h : Below w.heap.size w wa) (hk : Kp R wa.heap.size wa wb) (hR : w.heap.size ≤ R) (hR2 : R ≤ wa.heap.size) : Below w.heap.size w wb :=
  h.trans ((hk.below hR2).mono hR)

/-- a list of texts at block b -/
def Texts (b len : Nat) (w : World) : Prop := b < w.heap.size ∧ ∀ i, i < len → ∃ y, w.cell? ⟨b, i, none⟩ = some (.string y)
theorem Texts.keep {b len : Nat} {w w' : World} (h : Texts b len w) (hs : w.heap.size ≤ w'.heap.size) (hc : ∀ o, w'.cell? ⟨b, o, none⟩ = w.cell? ⟨b, o, none⟩) : Texts b len w' :=
  ⟨by have := h.1; omega, fun i hi => by rw [hc]; exact h.2 i hi⟩
theorem Texts.new (w : World) (l : Array Value) (t : TypeId) (len : Nat) (hl : ∀ v ∈ l.toList, ∃ y, v = Value.string y) (hs : l.size = len) : Texts w.heap.size len (w.alloc (.cells l t)) := by
  subst hs
  refine ⟨by simp, fun i hi => ?_⟩
  have : (w.alloc (.cells l t)).cell? ⟨w.heap.size, i, none⟩ = l[i]? := by simp [go_sem]
  rw [this, Array.getElem?_eq_getElem hi]
  obtain ⟨y, hy⟩ := hl l[i] (by simp)
  exact ⟨y, by rw [hy]⟩
theorem Texts.kp {b len R : Nat} {w w' : World} (h : Texts b len w) (hk : Kp R w.heap.size w w') (hn : b ≠ R) : Texts b len w' :=
  h.keep hk.size fun _ => hk.cell h.1 hn

set_option maxHeartbeats 1000000 in
theorem of_any (R b len cap : Nat) (K : Int) (w : World) (h : Rd R K w) (hK : K ≤ 1000) (hn : b ≠ R) (hl : Texts b len w) (h1 : 1 ≤ len) :
    Calls Tryd.prog 51 #[.pointer (some ⟨R, 0, none⟩), .slice (some ⟨b, 0, none⟩) len cap] w fun r w' => (∃ y, r = .returned (.string y)) ∧ Rd R (K + 1) w' ∧ Kp R w.heap.size w w' := by
  go_enter Tryd.func51, Tryd.ntmps51
  go_wp2_with (go_at_call 30; refine (pick_any R len K w h hK).mono ?_; rintro r w1 ⟨⟨x, rfl, hx0, hx1⟩, hr, hk⟩; have hx2 := hx1 (by omega); (obtain ⟨y, hy⟩ := (hl.kp hk hn).2 x.toNat (by omega)))
  go_ret
  exact ⟨⟨_, rfl⟩, by assumption, by assumption⟩

end Go.Proofs.YtejganoipbblcaaDoor
