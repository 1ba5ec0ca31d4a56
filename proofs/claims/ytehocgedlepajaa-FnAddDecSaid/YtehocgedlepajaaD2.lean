import Derived.Test.YtehocgedlepajaaD1
import Derived.Test.YtehocgedlepajaaS4
namespace Go.Proofs.Ytehocgedlepajaa
open Go.RowKit

/-- a list of numbers at block b -/
def Nums (b len : Nat) (w : World) : Prop := b < w.heap.size ∧ ∀ i, i < len → ∃ y, w.cell? ⟨b, i, none⟩ = some (.int .i64 y)
theorem Nums.keep {b len : Nat} {w w' : World} (h : Nums b len w) (hs : w.heap.size ≤ w'.heap.size) (hc : ∀ o, w'.cell? ⟨b, o, none⟩ = w.cell? ⟨b, o, none⟩) : Nums b len w' :=
  ⟨by have := h.1; omega, fun i hi => by rw [hc]; exact h.2 i hi⟩
theorem Nums.new (w : World) (l : Array Value) (t : TypeId) (len : Nat) (hl : ∀ v ∈ l.toList, ∃ y, v = Value.int .i64 y) (hs : l.size = len) : Nums w.heap.size len (w.alloc (.cells l t)) := by
  subst hs
  refine ⟨by simp, fun i hi => ?_⟩
  have : (w.alloc (.cells l t)).cell? ⟨w.heap.size, i, none⟩ = l[i]? := by simp [go_sem]
  rw [this, Array.getElem?_eq_getElem hi]
  obtain ⟨y, hy⟩ := hl l[i] (by simp)
  exact ⟨y, by rw [hy]⟩
theorem Nums.up {b len : Nat} {w : World} (h : Nums b len w) (x : Obj) : Nums b len (w.alloc x) :=
  have hb : Below w.heap.size w (w.alloc x) := (Below.refl _ _).alloc (Nat.le_refl _) _
  h.keep hb.size fun o => hb.cell (p := ⟨b, o, none⟩) h.1
theorem Nums.kp {b len R : Nat} {w w' : World} (h : Nums b len w) (hk : Kp R w.heap.size w w') (hn : b ≠ R) : Nums b len w' :=
  h.keep hk.size fun _ => hk.cell h.1 hn

theorem Kp.refl (R B : Nat) (w : World) : Kp R B w w := ⟨rfl, rfl, rfl, Nat.le_refl _, fun _ _ _ => rfl, fun _ => rfl⟩
theorem Kp.step {R : Nat} {a b c : World} (h : Kp R a.heap.size a b) (k : Kp R b.heap.size b c) : Kp R a.heap.size a c :=
  ⟨k.os.trans h.os, k.tape.trans h.tape, k.output.trans h.output, Nat.le_trans h.size k.size, fun i hi hn => (k.block i (Nat.lt_of_lt_of_le hi h.size) hn).trans (h.block i hi hn), fun o => (k.froz o).trans (h.froz o)⟩
theorem Kp.of_below {R : Nat} {a b : World} (h : Below a.heap.size a b) (hR : R < a.heap.size) : Kp R a.heap.size a b :=
  ⟨h.os, h.tape, h.output, h.size, fun k hk _ => h.block k hk, fun o => h.frozen (p := ⟨R, o, none⟩) hR⟩
theorem Kp.up {R : Nat} {a b : World} (h : Kp R a.heap.size a b) (hR : R < b.heap.size) (x : Obj) : Kp R a.heap.size a (b.alloc x) :=
  h.step (Kp.of_below ((Below.refl _ _).alloc (Nat.le_refl _) _) hR)
theorem Kp.set {R : Nat} {a b : World} (h : Kp R a.heap.size a b) {g : Nat} (hg : a.heap.size ≤ g) (o : Nat) (v : Value) : Kp R a.heap.size a (b.setCell ⟨g, o, none⟩ v) :=
  have h0 : Below g b (b.setCell ⟨g, o, none⟩ v) := Below.setCell (p := ⟨g, o, none⟩) (Below.refl g b) (Nat.le_refl _) v
  ⟨h.os, h.tape, h.output, Nat.le_trans h.size h0.size, fun k hk hn => (h0.block k (by omega)).trans (h.block k hk hn), fun o' => (set_frozen _ _ _ _ _).trans (h.froz o')⟩

set_option maxHeartbeats 1000000 in
theorem one_any (R b len cap : Nat) (K : Int) (w : World) (h : Rd R K w) (hK : K ≤ 1000) (hn : b ≠ R) (hl : Nums b len w) (h1 : 1 ≤ len) :
    Calls Try.prog 71 #[.pointer (some ⟨R, 0, none⟩), .slice (some ⟨b, 0, none⟩) len cap] w fun r w' => (∃ y, r = .returned (.int .i64 y)) ∧ Rd R (K + 1) w' ∧ Kp R w.heap.size w w' := by
  go_enter Try.func71, Try.ntmps71
  go_wp2_with (go_at_call 81; refine (pick_any R len K w h hK).mono ?_; rintro r w1 ⟨⟨x, rfl, hx0, hx1⟩, hr, hk⟩; have hx2 := hx1 (by omega); (obtain ⟨y, hy⟩ := (hl.kp hk hn).2 x.toNat (by omega)))
  go_ret
  exact ⟨⟨_, rfl⟩, by assumption, by assumption⟩

theorem Kp.drew {R B : Nat} {a w : World} (h : Kp R B a w) : Kp R B a w.drew := ⟨h.os, h.tape, h.output, h.size, h.block, h.froz⟩

theorem Kp.dec {R : Nat} {V w1 : World} {x y z : Value} {t : TypeId} (hk : Kp R (V.alloc (.cells #[x, y, z] t)).heap.size (V.alloc (.cells #[x, y, z] t)) w1) (hn : V.heap.size ≠ R) :
    w1.cell? ⟨V.heap.size, 0, none⟩ = some x ∧ w1.cell? ⟨V.heap.size, 1, none⟩ = some y ∧ w1.cell? ⟨V.heap.size, 2, none⟩ = some z ∧
    w1.frozen? ⟨V.heap.size, 0, none⟩ = false ∧ w1.frozen? ⟨V.heap.size, 1, none⟩ = false ∧ w1.frozen? ⟨V.heap.size, 2, none⟩ = false ∧ V.heap.size < w1.heap.size := by
  have hz := hk.size
  simp at hz
  exact ⟨(hk.cell (by simp) hn).trans (by simp [go_sem]), (hk.cell (by simp) hn).trans (by simp [go_sem]), (hk.cell (by simp) hn).trans (by simp [go_sem]),
    (hk.frozen (by simp) hn).trans (by simp [go_sem]), (hk.frozen (by simp) hn).trans (by simp [go_sem]), (hk.frozen (by simp) hn).trans (by simp [go_sem]), by omega⟩

theorem Z3.kp {R g : Nat} {V w1 : World} (h : Z3 V g) (hk : Kp R V.heap.size V w1) (hn : g ≠ R) : Z3 w1 g := by
  obtain ⟨a, b, c, d, e, f, z⟩ := h
  have hz := hk.size
  exact ⟨(hk.cell z hn).trans a, (hk.cell z hn).trans b, (hk.cell z hn).trans c, (hk.frozen z hn).trans d, (hk.frozen z hn).trans e, (hk.frozen z hn).trans f, by omega⟩

/-- some decimal -/
def IsDec (r : Ending) : Prop := ∃ n c e, r = .returned (.agg #[.bool n, .int .i64 c, .int .i64 e])
theorem IsDec.mk (n : Bool) (c e : Int) : IsDec (.returned (.agg #[.bool n, .int .i64 c, .int .i64 e])) := ⟨n, c, e, rfl⟩

set_option maxHeartbeats 1000000 in
theorem goodDec_any (R : Nat) (K : Int) (w : World) (h : Rd R K w) (hK : K ≤ 900) :
    Calls Try.prog 80 #[.pointer (some ⟨R, 0, none⟩)] w fun r w' => IsDec r ∧ Rd R (K + 10) w' ∧ Kp R w.heap.size w w' := by
  have hR := h.1
  have hr := h
  have zA := Z3.new w
  have hgR : w.heap.size ≠ R := by omega
  go_enter Try.func80, Try.ntmps80
  go_wp2_with (first
    | (go_at_call 81; (first | with_reducible refine Calls.mono (pick_any R _ _ _ hr ?_) ?_ | with_reducible refine Calls.mono (pick_any R _ _ _ (hr.up _) ?_) ?_ | with_reducible refine Calls.mono (pick_any R _ _ _ ((hr.up _).up _) ?_) ?_ | with_reducible refine Calls.mono (pick_any R _ _ _ ((((hr.up _).set (by omega) _).set (by omega) _).set (by omega) _) ?_) ?_ | with_reducible refine Calls.mono (pick_any R _ _ _ (((((hr.up _).set (by omega) _).set (by omega) _).set (by omega) _).up _) ?_) ?_ | with_reducible refine Calls.mono (pick_any R _ _ _ (hr.set (by omega) _) ?_) ?_ | with_reducible refine Calls.mono (pick_any R _ _ _ ((hr.set (by omega) _).up _) ?_) ?_); omega; rintro r w1 ⟨⟨x, rfl, hx0, hx1⟩, hr, hk⟩; have hR1 := hr.1; have hne := Nat.ne_of_gt hr.1; have hz := hk.size; (try simp at hz); (try obtain ⟨q0, q1, q2, z0, z1, z2, qz⟩ := Kp.dec hk (by omega)); (try (have zN := Z3.kp (by first | with_reducible exact zA | with_reducible exact zA.up _ | with_reducible exact (zA.up _).up _) hk hgR; clear zA; have zA := zN; clear zN; have zC := zA; obtain ⟨y0, y1, y2, y3, y4, y5, y6⟩ := zC; have hnw := Nat.ne_of_lt y6; have hnw2 := Nat.ne_of_gt y6)))
    | (go_at_call 71; (first | with_reducible refine Calls.mono (one_any R _ _ _ _ _ hr ?_ ?_ ?_ ?_) ?_ | with_reducible refine Calls.mono (one_any R _ _ _ _ _ (hr.up _) ?_ ?_ ?_ ?_) ?_ | with_reducible refine Calls.mono (one_any R _ _ _ _ _ ((hr.up _).up _) ?_ ?_ ?_ ?_) ?_ | with_reducible refine Calls.mono (one_any R _ _ _ _ _ ((((hr.up _).set (by omega) _).set (by omega) _).set (by omega) _) ?_ ?_ ?_ ?_) ?_ | with_reducible refine Calls.mono (one_any R _ _ _ _ _ (((((hr.up _).set (by omega) _).set (by omega) _).set (by omega) _).up _) ?_ ?_ ?_ ?_) ?_ | with_reducible refine Calls.mono (one_any R _ _ _ _ _ (hr.set (by omega) _) ?_ ?_ ?_ ?_) ?_ | with_reducible refine Calls.mono (one_any R _ _ _ _ _ ((hr.set (by omega) _).up _) ?_ ?_ ?_ ?_) ?_); omega; omega; exact Nums.new _ _ _ 12 (by simp) rfl; omega; rintro r w1 ⟨⟨ya, rfl⟩, hr, hk⟩; have hR1 := hr.1; have hne := Nat.ne_of_gt hr.1; have hz := hk.size; (try simp at hz); (try obtain ⟨q0, q1, q2, z0, z1, z2, qz⟩ := Kp.dec hk (by omega)); (try (have zN := Z3.kp (by first | with_reducible exact zA | with_reducible exact zA.up _ | with_reducible exact (zA.up _).up _) hk hgR; clear zA; have zA := zN; clear zN; have zC := zA; obtain ⟨y0, y1, y2, y3, y4, y5, y6⟩ := zC; have hnw := Nat.ne_of_lt y6; have hnw2 := Nat.ne_of_gt y6)))
    | (go_at_call 71; (first | with_reducible refine Calls.mono (one_any R _ _ _ _ _ hr ?_ ?_ ?_ ?_) ?_ | with_reducible refine Calls.mono (one_any R _ _ _ _ _ (hr.up _) ?_ ?_ ?_ ?_) ?_ | with_reducible refine Calls.mono (one_any R _ _ _ _ _ ((hr.up _).up _) ?_ ?_ ?_ ?_) ?_ | with_reducible refine Calls.mono (one_any R _ _ _ _ _ ((((hr.up _).set (by omega) _).set (by omega) _).set (by omega) _) ?_ ?_ ?_ ?_) ?_ | with_reducible refine Calls.mono (one_any R _ _ _ _ _ (((((hr.up _).set (by omega) _).set (by omega) _).set (by omega) _).up _) ?_ ?_ ?_ ?_) ?_ | with_reducible refine Calls.mono (one_any R _ _ _ _ _ (hr.set (by omega) _) ?_ ?_ ?_ ?_) ?_ | with_reducible refine Calls.mono (one_any R _ _ _ _ _ ((hr.set (by omega) _).up _) ?_ ?_ ?_ ?_) ?_); omega; omega; exact Nums.new _ _ _ 13 (by simp) rfl; omega; rintro r w1 ⟨⟨yb, rfl⟩, hr, hk⟩; have hR1 := hr.1; have hne := Nat.ne_of_gt hr.1; have hz := hk.size; (try simp at hz); (try obtain ⟨q0, q1, q2, z0, z1, z2, qz⟩ := Kp.dec hk (by omega)); (try (have zN := Z3.kp (by first | with_reducible exact zA | with_reducible exact zA.up _ | with_reducible exact (zA.up _).up _) hk hgR; clear zA; have zA := zN; clear zN; have zC := zA; obtain ⟨y0, y1, y2, y3, y4, y5, y6⟩ := zC; have hnw := Nat.ne_of_lt y6; have hnw2 := Nat.ne_of_gt y6))))
  · have hrm := hr.mono (show _ ≤ K + 10 by omega)
    exact bodyPost_ret (v := .agg #[.bool (x == 0), .int .i64 ya, .int .i64 yb]) (by simp [results, Try.results80, go_sem, *]) rfl ⟨IsDec.mk _ _ _, (by repeat (first | with_reducible assumption | with_reducible refine Rd.up ?_ _ | with_reducible refine Rd.drew ?_ | with_reducible refine Rd.set ?_ (by first | omega | (simp; done) | (simp <;> omega)) _)), (by repeat (first | with_reducible assumption | with_reducible exact Kp.refl _ _ _ | with_reducible refine Kp.up ?_ (by first | omega | (simp; done) | (simp <;> omega)) _ | with_reducible refine Kp.set ?_ (by first | omega | (simp; done) | (simp <;> omega)) _ _ | with_reducible refine Kp.drew ?_ | with_reducible refine Kp.step ?_ (by with_reducible assumption)))⟩
  · have hrm := hr.mono (show _ ≤ K + 10 by omega)
    exact bodyPost_ret (v := .agg #[.bool false, .int .i64 ya, .int .i64 yb]) (by simp [results, Try.results80, go_sem, *]) rfl ⟨IsDec.mk _ _ _, (by repeat (first | with_reducible assumption | with_reducible refine Rd.up ?_ _ | with_reducible refine Rd.drew ?_ | with_reducible refine Rd.set ?_ (by first | omega | (simp; done) | (simp <;> omega)) _)), (by repeat (first | with_reducible assumption | with_reducible exact Kp.refl _ _ _ | with_reducible refine Kp.up ?_ (by first | omega | (simp; done) | (simp <;> omega)) _ | with_reducible refine Kp.set ?_ (by first | omega | (simp; done) | (simp <;> omega)) _ _ | with_reducible refine Kp.drew ?_ | with_reducible refine Kp.step ?_ (by with_reducible assumption)))⟩

theorem C3.dec {R : Nat} {V w1 : World} {x y z : Value} {t : TypeId} (hk : Kp R (V.alloc (.cells #[x, y, z] t)).heap.size (V.alloc (.cells #[x, y, z] t)) w1) (hn : V.heap.size ≠ R) : C3 w1 V.heap.size x y z := Kp.dec hk hn
theorem C3.kp {R g : Nat} {V w1 : World} {x y z : Value} (h : C3 V g x y z) (hk : Kp R V.heap.size V w1) (hn : g ≠ R) : C3 w1 g x y z := by
  obtain ⟨a, b, c, d, e, f, u⟩ := h
  have hz := hk.size
  exact ⟨(hk.cell u hn).trans a, (hk.cell u hn).trans b, (hk.cell u hn).trans c, (hk.frozen u hn).trans d, (hk.frozen u hn).trans e, (hk.frozen u hn).trans f, by omega⟩

set_option maxHeartbeats 2000000 in
theorem someDec_any (R : Nat) (K : Int) (w : World) (h : Rd R K w) (hK : K ≤ 800) :
    Calls Try.prog 54 #[.pointer (some ⟨R, 0, none⟩)] w fun r w' => IsDec r ∧ Rd R (K + 20) w' ∧ Kp R w.heap.size w w' := by
  have hR := h.1
  have hr := h
  have zA := Z3.new w
  have hgR : w.heap.size ≠ R := by omega
  go_enter Try.func54, Try.ntmps54
  go_wp2_with (first
    | (go_at_call 80; refine Calls.mono (goodDec_any R _ _ (hr.up _) ?_) ?_; omega; rintro r w1 ⟨⟨n, c, e, rfl⟩, hr, hk⟩; have hR1 := hr.1; have hne := Nat.ne_of_gt hr.1; have hz := hk.size; (try simp at hz); (try obtain ⟨q0, q1, q2, z0, z1, z2, qz⟩ := Kp.dec hk (by omega)); (try (have zN := Z3.kp (by first | with_reducible exact zA | with_reducible exact zA.up _ | with_reducible exact (zA.up _).up _) hk hgR; clear zA; have zA := zN; clear zN; have zC := zA; obtain ⟨y0, y1, y2, y3, y4, y5, y6⟩ := zC; have hnw := Nat.ne_of_lt y6; have hnw2 := Nat.ne_of_gt y6)))
    | (go_at_call 81; (first | with_reducible refine Calls.mono (pick_any R _ _ _ hr ?_) ?_ | with_reducible refine Calls.mono (pick_any R _ _ _ (hr.up _) ?_) ?_ | with_reducible refine Calls.mono (pick_any R _ _ _ ((hr.up _).up _) ?_) ?_ | with_reducible refine Calls.mono (pick_any R _ _ _ ((((hr.up _).set (by omega) _).set (by omega) _).set (by omega) _) ?_) ?_ | with_reducible refine Calls.mono (pick_any R _ _ _ (((((hr.up _).set (by omega) _).set (by omega) _).set (by omega) _).up _) ?_) ?_ | with_reducible refine Calls.mono (pick_any R _ _ _ (hr.set (by omega) _) ?_) ?_ | with_reducible refine Calls.mono (pick_any R _ _ _ ((hr.set (by omega) _).up _) ?_) ?_); omega; rintro r w1 ⟨⟨x, rfl, hx0, hx1⟩, hr, hk⟩; have hR1 := hr.1; have hne := Nat.ne_of_gt hr.1; have hz := hk.size; (try simp at hz); (try (have zN := Z3.kp (by first | with_reducible exact zA | with_reducible exact zA.up _ | with_reducible exact (zA.up _).up _) hk hgR; clear zA; have zA := zN; clear zN; have zC := zA; obtain ⟨y0, y1, y2, y3, y4, y5, y6⟩ := zC; have hnw := Nat.ne_of_lt y6; have hnw2 := Nat.ne_of_gt y6)); have zB := C3.dec hk (by omega); have zD := zB; obtain ⟨b0, b1, b2, b3, b4, b5, b6⟩ := zD)
    | (go_at_call 71; (first | with_reducible refine Calls.mono (one_any R _ _ _ _ _ hr ?_ ?_ ?_ ?_) ?_ | with_reducible refine Calls.mono (one_any R _ _ _ _ _ (hr.up _) ?_ ?_ ?_ ?_) ?_ | with_reducible refine Calls.mono (one_any R _ _ _ _ _ ((hr.up _).up _) ?_ ?_ ?_ ?_) ?_ | with_reducible refine Calls.mono (one_any R _ _ _ _ _ ((((hr.up _).set (by omega) _).set (by omega) _).set (by omega) _) ?_ ?_ ?_ ?_) ?_ | with_reducible refine Calls.mono (one_any R _ _ _ _ _ (((((hr.up _).set (by omega) _).set (by omega) _).set (by omega) _).up _) ?_ ?_ ?_ ?_) ?_ | with_reducible refine Calls.mono (one_any R _ _ _ _ _ (hr.set (by omega) _) ?_ ?_ ?_ ?_) ?_ | with_reducible refine Calls.mono (one_any R _ _ _ _ _ ((hr.set (by omega) _).up _) ?_ ?_ ?_ ?_) ?_); omega; omega; exact Nums.new _ _ _ 2 (by simp) rfl; omega; rintro r w1 ⟨⟨y, rfl⟩, hr, hk⟩; have hR1 := hr.1; have hne := Nat.ne_of_gt hr.1; have hz := hk.size; (try simp at hz); (try (have zN := Z3.kp (by first | with_reducible exact zA | with_reducible exact zA.up _ | with_reducible exact (zA.up _).up _) hk hgR; clear zA; have zA := zN; clear zN; have zC := zA; obtain ⟨y0, y1, y2, y3, y4, y5, y6⟩ := zC; have hnw := Nat.ne_of_lt y6; have hnw2 := Nat.ne_of_gt y6)); have zM := C3.kp (zB.up _) hk (by omega); obtain ⟨c0, c1, c2, c3, c4, c5, c6⟩ := zM))
  · have hrm := hr.mono (show _ ≤ K + 20 by omega)
    exact bodyPost_ret (v := .agg #[.bool n, .int .i64 y, .int .i64 e]) (by simp [results, Try.results54, go_sem, *]) rfl ⟨IsDec.mk _ _ _, (by repeat (first | with_reducible assumption | with_reducible refine Rd.up ?_ _ | with_reducible refine Rd.drew ?_ | with_reducible refine Rd.set ?_ (by first | omega | (simp; done) | (simp <;> omega)) _)), (by repeat (first | with_reducible assumption | with_reducible exact Kp.refl _ _ _ | with_reducible refine Kp.up ?_ (by first | omega | (simp; done) | (simp <;> omega)) _ | with_reducible refine Kp.set ?_ (by first | omega | (simp; done) | (simp <;> omega)) _ _ | with_reducible refine Kp.drew ?_ | with_reducible refine Kp.step ?_ (by with_reducible assumption)))⟩
  · have hrm := hr.mono (show _ ≤ K + 20 by omega)
    exact bodyPost_ret (v := .agg #[.bool n, .int .i64 c, .int .i64 y]) (by simp [results, Try.results54, go_sem, *]) rfl ⟨IsDec.mk _ _ _, (by repeat (first | with_reducible assumption | with_reducible refine Rd.up ?_ _ | with_reducible refine Rd.drew ?_ | with_reducible refine Rd.set ?_ (by first | omega | (simp; done) | (simp <;> omega)) _)), (by repeat (first | with_reducible assumption | with_reducible exact Kp.refl _ _ _ | with_reducible refine Kp.up ?_ (by first | omega | (simp; done) | (simp <;> omega)) _ | with_reducible refine Kp.set ?_ (by first | omega | (simp; done) | (simp <;> omega)) _ _ | with_reducible refine Kp.drew ?_ | with_reducible refine Kp.step ?_ (by with_reducible assumption)))⟩
  · have hrm := hr.mono (show _ ≤ K + 20 by omega)
    exact bodyPost_ret (v := .agg #[.bool (!n), .int .i64 c, .int .i64 e]) (by simp [results, Try.results54, go_sem, *]) rfl ⟨IsDec.mk _ _ _, (by repeat (first | with_reducible assumption | with_reducible refine Rd.up ?_ _ | with_reducible refine Rd.drew ?_ | with_reducible refine Rd.set ?_ (by first | omega | (simp; done) | (simp <;> omega)) _)), (by repeat (first | with_reducible assumption | with_reducible exact Kp.refl _ _ _ | with_reducible refine Kp.up ?_ (by first | omega | (simp; done) | (simp <;> omega)) _ | with_reducible refine Kp.set ?_ (by first | omega | (simp; done) | (simp <;> omega)) _ _ | with_reducible refine Kp.drew ?_ | with_reducible refine Kp.step ?_ (by with_reducible assumption)))⟩
  · have hrm := hr.mono (show _ ≤ K + 20 by omega)
    exact bodyPost_ret (v := .agg #[.bool n, .int .i64 c, .int .i64 e]) (by simp [results, Try.results54, go_sem, *]) rfl ⟨IsDec.mk _ _ _, (by repeat (first | with_reducible assumption | with_reducible refine Rd.up ?_ _ | with_reducible refine Rd.drew ?_ | with_reducible refine Rd.set ?_ (by first | omega | (simp; done) | (simp <;> omega)) _)), (by repeat (first | with_reducible assumption | with_reducible exact Kp.refl _ _ _ | with_reducible refine Kp.up ?_ (by first | omega | (simp; done) | (simp <;> omega)) _ | with_reducible refine Kp.set ?_ (by first | omega | (simp; done) | (simp <;> omega)) _ _ | with_reducible refine Kp.drew ?_ | with_reducible refine Kp.step ?_ (by with_reducible assumption)))⟩
end Go.Proofs.Ytehocgedlepajaa
