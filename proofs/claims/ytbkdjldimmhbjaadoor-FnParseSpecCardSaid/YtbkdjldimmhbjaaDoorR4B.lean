import Derived.Test.YtbkdjldimmhbjaaDoorR4
import Derived.Test.YtbkdjldimmhbjaaDoorN3
import Derived.Test.YtbkdjldimmhbjaaDoorW4G
import Derived.Deep.CutBlock
namespace Go.Proofs.YtbkdjldimmhbjaaDoor
open Go.RowKit
/-- a specification within its bounds -/
def IsSpB (r : Ending) : Prop := ∃ f al si alt ze wi gr pr t, r = .returned (.agg #[.string f, .int .i64 al, .int .i64 si, .bool alt, .bool ze, .int .i64 wi, .int .i64 gr, .int .i64 pr, .string t]) ∧ GS f al si wi gr pr t
theorem IsSpB.mk (f : ByteArray) (al si : Int) (alt ze : Bool) (wi gr pr : Int) (t : ByteArray) (h : GS f al si wi gr pr t) : IsSpB (.returned (.agg #[.string f, .int .i64 al, .int .i64 si, .bool alt, .bool ze, .int .i64 wi, .int .i64 gr, .int .i64 pr, .string t])) := ⟨f, al, si, alt, ze, wi, gr, pr, t, rfl, h⟩
structure Bd (lo hi y : Int) : Prop where
  lo : lo ≤ y
  hi : y ≤ hi
structure SzB (t : ByteArray) : Prop where
  out : t.size ≤ 1
theorem SzB.nil : SzB ⟨#[]⟩ := ⟨by decide⟩
theorem Bd.of {lo hi lo' hi' y : Int} (h : Bd lo hi y) (h1 : lo' ≤ lo) (h2 : hi ≤ hi') : Bd lo' hi' y := ⟨by have := h.lo; omega, by have := h.hi; omega⟩
theorem Bd.c {lo hi y : Int} (h1 : lo ≤ y) (h2 : y ≤ hi) : Bd lo hi y := ⟨h1, h2⟩
theorem Bd.succ {lo hi y : Int} (h : Bd lo hi y) (h1 : lo = 0) (h2 : hi = 3) : Bd 0 4 (1 + y) := ⟨by have := h.lo; omega, by have := h.hi; omega⟩
theorem Bd.succ' {lo hi y : Int} (h : Bd lo hi y) (h1 : lo = 0) (h2 : hi = 3) : Bd 0 4 (y + 1) := ⟨by have := h.lo; omega, by have := h.hi; omega⟩
theorem Bd.succw {lo hi y : Int} (h : Bd lo hi y) (h1 : lo = 0) (h2 : hi = 3) : Bd 0 4 (IntKind.i64.wrap (1 + y)) := by
  have := h.lo; have := h.hi
  rw [show IntKind.i64.wrap (1 + y) = 1 + y by rw [IntKind.wrap_i64]; omega]
  exact ⟨by omega, by omega⟩
theorem Bd.succw' {lo hi y : Int} (h : Bd lo hi y) (h1 : lo = 0) (h2 : hi = 3) : Bd 0 4 (wrap64 (1 + y)) := by
  have := h.lo; have := h.hi
  rw [show wrap64 (1 + y) = 1 + y by unfold wrap64; omega]
  exact ⟨by omega, by omega⟩
/-- the bounds of a drawn specification -/
structure GB (f : ByteArray) (al si wi gr pr : Int) (t : ByteArray) : Prop where
  f : SzB f
  al : Bd 0 4 al
  si : Bd 0 3 si
  wi : Bd 0 30 wi
  gr : Bd 0 2 gr
  pr : Bd (-1) 9 pr
  t : SzB t
theorem GB.gs {f : ByteArray} {al si wi gr pr : Int} {t : ByteArray} (h : GB f al si wi gr pr t) : GS f al si wi gr pr t :=
  ⟨h.al.lo, h.al.hi, h.si.lo, h.si.hi, h.gr.lo, h.gr.hi, h.wi.lo, h.wi.hi, h.pr.lo, h.pr.hi, h.f.out, h.t.out⟩
theorem pick_b (n : Int) (hn : 1 ≤ n) {W0 : World} {R : Nat} {K : Int} {w : World} (_ : Rd R K W0) (h : Rd R K w) (hK : K ≤ 1000) :
    Calls Tryd.prog 35 #[.pointer (some ⟨R, 0, none⟩), .int .i64 n] w fun r w' => (∃ x, r = .returned (.int .i64 x) ∧ Bd 0 (n - 1) x) ∧ Rd R (K + 1) w' ∧ Kp R w.heap.size w w' := by
  refine (pick_any R n K w h hK).mono ?_
  rintro r w' ⟨⟨x, rfl, h0, h1⟩, hr, hk⟩
  exact ⟨⟨x, rfl, h0, by have := h1 hn; omega⟩, hr, hk⟩
/-- a list of numbers at block b, with its members -/
def NumsM (cells : List Value) (b len : Nat) (w : World) : Prop := NumsP (fun y => Value.int .i64 y ∈ cells) b len w
theorem NumsM.at_ (w : World) (l : Array Value) (t : TypeId) (len b : Nat) (hb : b = w.heap.size) (hl : ∀ v ∈ l.toList, ∃ y, v = Value.int .i64 y) (hs : l.size = len) : NumsM l.toList b len (w.alloc (.cells l t)) := by
  subst hb
  exact NumsP.new _ w l t len (fun v hv => by obtain ⟨y, rfl⟩ := hl v hv; exact ⟨y, rfl, hv⟩) hs
theorem Bd.mem {lo hi y : Int} {L : List Value} (h : Value.int .i64 y ∈ L) (hb : (L.all fun v => match v with | .int _ z => decide (lo ≤ z) && decide (z ≤ hi) | _ => false) = true) : Bd lo hi y := by
  have h1 := List.all_eq_true.1 hb _ h
  simp only [Bool.and_eq_true, decide_eq_true_eq] at h1
  exact ⟨h1.1, h1.2⟩
theorem Nums.mem {V : World} {l : Array Value} {t : TypeId} {b : Nat} {i : Nat} {v : Value} (hc : (V.alloc (.cells l t)).cell? ⟨b, i, none⟩ = some v) (hb : b = V.heap.size) : v ∈ l.toList := by
  subst hb
  have e : (V.alloc (.cells l t)).cell? ⟨V.heap.size, i, none⟩ = l[i]? := by simp [go_sem]
  rw [e] at hc
  exact Array.mem_toList_iff.2 (Array.mem_of_getElem? hc)
theorem one_q {W0 : World} {R b len cap : Nat} {K : Int} {w : World} (_ : Rd R K W0) (h : Rd R K w) (hK : K ≤ 1000) (hn : b ≠ R) (hl : Nums b len w) (h1 : 1 ≤ len) :
    Calls Tryd.prog 62 #[.pointer (some ⟨R, 0, none⟩), .slice (some ⟨b, 0, none⟩) len cap] w fun r w' => (∃ y, r = .returned (.int .i64 y) ∧ ∃ i : Nat, w.cell? ⟨b, i, none⟩ = some (.int .i64 y)) ∧ Rd R (K + 1) w' ∧ Kp R w.heap.size w w' :=
  one_p (fun y => ∃ i : Nat, w.cell? ⟨b, i, none⟩ = some (.int .i64 y)) R b len cap K w h hK hn ⟨hl.1, fun i hi => by obtain ⟨y, hy⟩ := hl.2 i hi; exact ⟨y, hy, i, hy⟩⟩ h1
theorem of_b {W0 : World} {R b len cap : Nat} {K : Int} {w : World} (_ : Rd R K W0) (h : Rd R K w) (hK : K ≤ 1000) (hn : b ≠ R) (hl : TextsP (fun y => y.size ≤ 1) b len w) (h1 : 1 ≤ len) :
    Calls Tryd.prog 63 #[.pointer (some ⟨R, 0, none⟩), .slice (some ⟨b, 0, none⟩) len cap] w fun r w' => (∃ y, r = .returned (.string y) ∧ SzB y) ∧ Rd R (K + 1) w' ∧ Kp R w.heap.size w w' := by
  refine (of_p _ R b len cap K w h hK hn hl h1).mono ?_
  rintro r w' ⟨⟨y, rfl, h0⟩, hr, hk⟩
  exact ⟨⟨y, rfl, ⟨h0⟩⟩, hr, hk⟩
theorem NumsP.at_ (p : Int → Prop) (w : World) (l : Array Value) (t : TypeId) (len b : Nat) (hb : b = w.heap.size) (hl : ∀ v ∈ l.toList, ∃ y, v = Value.int .i64 y ∧ p y) (hs : l.size = len) : NumsP p b len (w.alloc (.cells l t)) := by
  subst hb
  exact NumsP.new p w l t len hl hs
theorem TextsP.at_ (p : ByteArray → Prop) (w : World) (l : Array Value) (t : TypeId) (len b : Nat) (hb : b = w.heap.size) (hl : ∀ v ∈ l.toList, ∃ y, v = Value.string y ∧ p y) (hs : l.size = len) : TextsP p b len (w.alloc (.cells l t)) := by
  subst hb
  exact TextsP.new p w l t len hl hs
theorem memN_one {a : Int} {l : List Value} {p : Int → Prop} (ha : p a) (h : ∀ v ∈ l, ∃ y, v = Value.int .i64 y ∧ p y) : ∀ v ∈ (Value.int .i64 a :: l), ∃ y, v = Value.int .i64 y ∧ p y := by
  intro v hv
  rcases List.mem_cons.1 hv with rfl | hv
  · exact ⟨_, rfl, ha⟩
  · exact h v hv
theorem memN_nil {p : Int → Prop} : ∀ v ∈ ([] : List Value), ∃ y, v = Value.int .i64 y ∧ p y := fun v hv => by cases hv
def MidB (R : Nat) (K : Int) (w : World) (g : Nat) (wx : World) : Prop :=
  Rd R K wx ∧ Kp R w.heap.size w wx ∧ C9 wx w.heap.size (.string ⟨#[]⟩) (.int .i64 0) (.int .i64 0) (.bool false) (.bool false) (.int .i64 0) (.int .i64 0) (.int .i64 0) (.string ⟨#[]⟩) ∧ w.heap.size + 1 ≤ g ∧ g ≠ R ∧
  ∃ f al si alt ze wi gr pr t, GB f al si wi gr pr t ∧ C9 wx g (.string f) (.int .i64 al) (.int .i64 si) (.bool alt) (.bool ze) (.int .i64 wi) (.int .i64 gr) (.int .i64 pr) (.string t)
theorem MidB.mk {R : Nat} {K K' : Int} {w : World} {g : Nat} {wx W0 : World} {f : ByteArray} {al si : Int} {alt ze : Bool} {wi gr pr : Int} {t : ByteArray} (_ : Rd R K' W0) (hr : Rd R K' wx) (hle : K' ≤ K) (hk : Kp R w.heap.size w wx) (zr : C9 wx w.heap.size (.string ⟨#[]⟩) (.int .i64 0) (.int .i64 0) (.bool false) (.bool false) (.int .i64 0) (.int .i64 0) (.int .i64 0) (.string ⟨#[]⟩)) (hg : w.heap.size + 1 ≤ g) (hn : g ≠ R)
    (zs : C9 wx g (.string f) (.int .i64 al) (.int .i64 si) (.bool alt) (.bool ze) (.int .i64 wi) (.int .i64 gr) (.int .i64 pr) (.string t)) (hG : GB f al si wi gr pr t) : MidB R K w g wx := ⟨hr.mono hle, hk, zr, hg, hn, f, al, si, alt, ze, wi, gr, pr, t, hG, zs⟩
end Go.Proofs.YtbkdjldimmhbjaaDoor
