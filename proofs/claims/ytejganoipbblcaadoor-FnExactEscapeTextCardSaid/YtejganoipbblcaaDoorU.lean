import Derived.Test.YtejganoipbblcaaDoorB
import Derived.Deep.QuietTactic
import Derived.BigQuiet
import Derived.Deep.RegionHeld
namespace Go.Proofs.YtejganoipbblcaaDoor
open Go.RowKit
theorem set_frozen (w : World) (p : Addr) (v : Value) (b o : Nat) : (w.setCell p v).frozen? ⟨b, o, none⟩ = w.frozen? ⟨b, o, none⟩ := by simp [go_sem]
/-- a world after W in which nothing old has turned -/
structure Since (W : World) where
  v : World
  h : Below W.heap.size W v
instance (W : World) : Nonempty (Since W) := ⟨⟨W, Below.refl _ _⟩⟩
instance (W : World) : Inhabited (Since W) := ⟨⟨W, Below.refl _ _⟩⟩
theorem wp_region_since {P : Program} {id : Nat} {Q : Exit → Act → World → Prop} {a : Act} {w : World} {l : List Oper} (hm : P.follows .mixedOrders = true) (hB : Region.lexB .any l.toArray = true)
    (h : wpQuiet P l.toArray (fun w' => ∃ p : Since w, w' = p.v) (fun a' => ∀ w', (∃ p : Since w, w' = p.v) → Q .normal a' w') l a) : (Code.region id l.toArray true).wp P Q a w :=
  wp_region_quiet (C := fun w' => ∃ p : Since w, w' = p.v) hm hB ⟨⟨w.drew, (Below.refl _ _).drew⟩, rfl⟩ (by simpa using h)
theorem Calls.since_of {P : Program} {f : FuncId} {args : Array Value} {W : World} {p : Since W} {v : Value} (h : Calls P f args p.v fun r w' => r = .returned v ∧ Below p.v.heap.size p.v w') :
    Calls P f args p.v fun e w'' => e = .returned v ∧ ∃ q : Since W, w'' = q.v :=
  h.mono fun _ w'' ⟨he, hb⟩ => ⟨he, ⟨w'', p.h.trans (hb.mono p.h.size)⟩, rfl⟩
end Go.Proofs.YtejganoipbblcaaDoor
