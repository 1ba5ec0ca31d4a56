import Derived.Test.YtejganoipbblcaaGreatDoorE7
import Derived.Test.YtejganoipbblcaaGreatDoorR4
import Derived.Test.YtejganoipbblcaaGreatDoorN3
import Derived.Test.YtejganoipbblcaaGreatDoorR6
import Derived.Deep.DeepCutAuto
import Derived.Test.YtejganoipbblcaaGreatDoorGV1
namespace Go.Proofs.YtejganoipbblcaaGreatDoor
open Go Go.RowKit
/-- a new block of three zero cells, as a later world has it -/
def Z3 (w1 : World) (g : Nat) : Prop := w1.cell? ⟨g, 0, none⟩ = some (.bool false) ∧ w1.cell? ⟨g, 1, none⟩ = some (.int .i64 0) ∧ w1.cell? ⟨g, 2, none⟩ = some (.int .i64 0) ∧
  w1.frozen? ⟨g, 0, none⟩ = false ∧ w1.frozen? ⟨g, 1, none⟩ = false ∧ w1.frozen? ⟨g, 2, none⟩ = false ∧ g < w1.heap.size
theorem Z3.new (V : World) : Z3 (V.alloc (.cells #[.bool false, .int .i64 0, .int .i64 0] 31)) V.heap.size := by
  refine ⟨?_, ?_, ?_, ?_, ?_, ?_, ?_⟩ <;> simp [go_sem]
theorem Z3.up {V : World} {g : Nat} (h : Z3 V g) (x : Obj) : Z3 (V.alloc x) g := by
  obtain ⟨a, b, c, d, e, f, z⟩ := h
  have hb : Below V.heap.size V (V.alloc x) := (Below.refl _ _).alloc (Nat.le_refl _) _
  exact ⟨(hb.cell z).trans a, (hb.cell z).trans b, (hb.cell z).trans c, (hb.frozen z).trans d, (hb.frozen z).trans e, (hb.frozen z).trans f, by simp; omega⟩
theorem Z3.drew {V : World} {g : Nat} (h : Z3 V g) : Z3 V.drew g := h
theorem Z3.carry {V w1 : World} {g : Nat} (h : Z3 V g) (hb : Below V.heap.size V w1) : Z3 w1 g := by
  obtain ⟨a, b, c, d, e, f, z⟩ := h
  have hz := hb.size
  exact ⟨(hb.cell z).trans a, (hb.cell z).trans b, (hb.cell z).trans c, (hb.frozen z).trans d, (hb.frozen z).trans e, (hb.frozen z).trans f, by omega⟩
theorem Kp.dec {R : Nat} {V w1 : World} {x y z : Value} {t : TypeId} (hk : Kp R (V.alloc (.cells #[x, y, z] t)).heap.size (V.alloc (.cells #[x, y, z] t)) w1) (hn : V.heap.size ≠ R) :
    w1.cell? ⟨V.heap.size, 0, none⟩ = some x ∧ w1.cell? ⟨V.heap.size, 1, none⟩ = some y ∧ w1.cell? ⟨V.heap.size, 2, none⟩ = some z ∧
    w1.frozen? ⟨V.heap.size, 0, none⟩ = false ∧ w1.frozen? ⟨V.heap.size, 1, none⟩ = false ∧ w1.frozen? ⟨V.heap.size, 2, none⟩ = false ∧ V.heap.size < w1.heap.size := by
  have hz := hk.size
  simp at hz
  exact ⟨(hk.cell (by simp) hn).trans (by simp [go_sem]), (hk.cell (by simp) hn).trans (by simp [go_sem]), (hk.cell (by simp) hn).trans (by simp [go_sem]),
    (hk.frozen (by simp) hn).trans (by simp [go_sem]), (hk.frozen (by simp) hn).trans (by simp [go_sem]), (hk.frozen (by simp) hn).trans (by simp [go_sem]), by omega⟩

theorem Z3.kp {R g : Nat} {V w1 : World} (h : Z3 V g) (hk : Kp R V.heap.size V w1) (hn : g ≠ R) : Z3 w1 g := by
  obtain ⟨a, b, c, d, e, f, z⟩ := h
  have hz := hk.size
  exact ⟨(hk.cell z hn).trans a, (hk.cell z hn).trans b, (hk.cell z hn).trans c, (hk.frozen z hn).trans d, (hk.frozen z hn).trans e, (hk.frozen z hn).trans f, by omega⟩

/-- some decimal -/
def IsDec (r : Ending) : Prop := ∃ n c e, r = .returned (.agg #[.bool n, .int .i64 c, .int .i64 e])
theorem IsDec.mk (n : Bool) (c e : Int) : IsDec (.returned (.agg #[.bool n, .int .i64 c, .int .i64 e])) := ⟨n, c, e, rfl⟩

set_option maxHeartbeats 1000000 in
theorem goodDec_any (R : Nat) (K : Int) (w : World) (h : Rd R K w) (hK : K ≤ 900) :
    Calls Tryz.prog 94 #[.pointer (some ⟨R, 0, none⟩)] w fun r w' => IsDec r ∧ Rd R (K + 10) w' ∧ Kp R w.heap.size w w' := by
  have hR := h.1
  have hr := h
  have zA := Z3.new w
  have hgR : w.heap.size ≠ R := by omega
  go_enter Tryz.func94, Tryz.ntmps94
  go_wp2_with (first
    | (go_at_call 52; (first | with_reducible refine Calls.mono (pick_any R _ _ _ hr ?_) ?_ | with_reducible refine Calls.mono (pick_any R _ _ _ (hr.up _) ?_) ?_ | with_reducible refine Calls.mono (pick_any R _ _ _ ((hr.up _).up _) ?_) ?_ | with_reducible refine Calls.mono (pick_any R _ _ _ ((((hr.up _).set (by omega) _).set (by omega) _).set (by omega) _) ?_) ?_ | with_reducible refine Calls.mono (pick_any R _ _ _ (((((hr.up _).set (by omega) _).set (by omega) _).set (by omega) _).up _) ?_) ?_ | with_reducible refine Calls.mono (pick_any R _ _ _ (hr.set (by omega) _) ?_) ?_ | with_reducible refine Calls.mono (pick_any R _ _ _ ((hr.set (by omega) _).up _) ?_) ?_); omega; rintro r w1 ⟨⟨x, rfl, hx0, hx1⟩, hr, hk⟩; have hR1 := hr.1; have hne := Nat.ne_of_gt hr.1; have hz := hk.size; (try simp at hz); (try obtain ⟨q0, q1, q2, z0, z1, z2, qz⟩ := Kp.dec hk (by omega)); (try (have zN := Z3.kp (by first | with_reducible exact zA | with_reducible exact zA.up _ | with_reducible exact (zA.up _).up _) hk hgR; clear zA; have zA := zN; clear zN; have zC := zA; obtain ⟨y0, y1, y2, y3, y4, y5, y6⟩ := zC; have hnw := Nat.ne_of_lt y6; have hnw2 := Nat.ne_of_gt y6)))
    | (go_at_call 79; (first | with_reducible refine Calls.mono (one_any R _ _ _ _ _ hr ?_ ?_ ?_ ?_) ?_ | with_reducible refine Calls.mono (one_any R _ _ _ _ _ (hr.up _) ?_ ?_ ?_ ?_) ?_ | with_reducible refine Calls.mono (one_any R _ _ _ _ _ ((hr.up _).up _) ?_ ?_ ?_ ?_) ?_ | with_reducible refine Calls.mono (one_any R _ _ _ _ _ ((((hr.up _).set (by omega) _).set (by omega) _).set (by omega) _) ?_ ?_ ?_ ?_) ?_ | with_reducible refine Calls.mono (one_any R _ _ _ _ _ (((((hr.up _).set (by omega) _).set (by omega) _).set (by omega) _).up _) ?_ ?_ ?_ ?_) ?_ | with_reducible refine Calls.mono (one_any R _ _ _ _ _ (hr.set (by omega) _) ?_ ?_ ?_ ?_) ?_ | with_reducible refine Calls.mono (one_any R _ _ _ _ _ ((hr.set (by omega) _).up _) ?_ ?_ ?_ ?_) ?_); omega; omega; exact Nums.new _ _ _ 12 (by simp) rfl; omega; rintro r w1 ⟨⟨ya, rfl⟩, hr, hk⟩; have hR1 := hr.1; have hne := Nat.ne_of_gt hr.1; have hz := hk.size; (try simp at hz); (try obtain ⟨q0, q1, q2, z0, z1, z2, qz⟩ := Kp.dec hk (by omega)); (try (have zN := Z3.kp (by first | with_reducible exact zA | with_reducible exact zA.up _ | with_reducible exact (zA.up _).up _) hk hgR; clear zA; have zA := zN; clear zN; have zC := zA; obtain ⟨y0, y1, y2, y3, y4, y5, y6⟩ := zC; have hnw := Nat.ne_of_lt y6; have hnw2 := Nat.ne_of_gt y6)))
    | (go_at_call 79; (first | with_reducible refine Calls.mono (one_any R _ _ _ _ _ hr ?_ ?_ ?_ ?_) ?_ | with_reducible refine Calls.mono (one_any R _ _ _ _ _ (hr.up _) ?_ ?_ ?_ ?_) ?_ | with_reducible refine Calls.mono (one_any R _ _ _ _ _ ((hr.up _).up _) ?_ ?_ ?_ ?_) ?_ | with_reducible refine Calls.mono (one_any R _ _ _ _ _ ((((hr.up _).set (by omega) _).set (by omega) _).set (by omega) _) ?_ ?_ ?_ ?_) ?_ | with_reducible refine Calls.mono (one_any R _ _ _ _ _ (((((hr.up _).set (by omega) _).set (by omega) _).set (by omega) _).up _) ?_ ?_ ?_ ?_) ?_ | with_reducible refine Calls.mono (one_any R _ _ _ _ _ (hr.set (by omega) _) ?_ ?_ ?_ ?_) ?_ | with_reducible refine Calls.mono (one_any R _ _ _ _ _ ((hr.set (by omega) _).up _) ?_ ?_ ?_ ?_) ?_); omega; omega; exact Nums.new _ _ _ 13 (by simp) rfl; omega; rintro r w1 ⟨⟨yb, rfl⟩, hr, hk⟩; have hR1 := hr.1; have hne := Nat.ne_of_gt hr.1; have hz := hk.size; (try simp at hz); (try obtain ⟨q0, q1, q2, z0, z1, z2, qz⟩ := Kp.dec hk (by omega)); (try (have zN := Z3.kp (by first | with_reducible exact zA | with_reducible exact zA.up _ | with_reducible exact (zA.up _).up _) hk hgR; clear zA; have zA := zN; clear zN; have zC := zA; obtain ⟨y0, y1, y2, y3, y4, y5, y6⟩ := zC; have hnw := Nat.ne_of_lt y6; have hnw2 := Nat.ne_of_gt y6))))
  · have hrm := hr.mono (show _ ≤ K + 10 by omega)
    exact bodyPost_ret (v := .agg #[.bool (x == 0), .int .i64 ya, .int .i64 yb]) (by simp [results, Tryz.results94, go_sem, *]) rfl ⟨IsDec.mk _ _ _, (by repeat (first | with_reducible assumption | with_reducible refine Rd.up ?_ _ | with_reducible refine Rd.drew ?_ | with_reducible refine Rd.set ?_ (by first | omega | (simp; done) | (simp <;> omega)) _)), (by repeat (first | with_reducible assumption | with_reducible exact Kp.refl _ _ _ | with_reducible refine Kp.up ?_ (by first | omega | (simp; done) | (simp <;> omega)) _ | with_reducible refine Kp.set ?_ (by first | omega | (simp; done) | (simp <;> omega)) _ _ | with_reducible refine Kp.drew ?_ | with_reducible refine Kp.step ?_ (by with_reducible assumption)))⟩
  · have hrm := hr.mono (show _ ≤ K + 10 by omega)
    exact bodyPost_ret (v := .agg #[.bool false, .int .i64 ya, .int .i64 yb]) (by simp [results, Tryz.results94, go_sem, *]) rfl ⟨IsDec.mk _ _ _, (by repeat (first | with_reducible assumption | with_reducible refine Rd.up ?_ _ | with_reducible refine Rd.drew ?_ | with_reducible refine Rd.set ?_ (by first | omega | (simp; done) | (simp <;> omega)) _)), (by repeat (first | with_reducible assumption | with_reducible exact Kp.refl _ _ _ | with_reducible refine Kp.up ?_ (by first | omega | (simp; done) | (simp <;> omega)) _ | with_reducible refine Kp.set ?_ (by first | omega | (simp; done) | (simp <;> omega)) _ _ | with_reducible refine Kp.drew ?_ | with_reducible refine Kp.step ?_ (by with_reducible assumption)))⟩

theorem C3.dec {R : Nat} {V w1 : World} {x y z : Value} {t : TypeId} (hk : Kp R (V.alloc (.cells #[x, y, z] t)).heap.size (V.alloc (.cells #[x, y, z] t)) w1) (hn : V.heap.size ≠ R) : C3 w1 V.heap.size x y z := Kp.dec hk hn
theorem C3.kp {R g : Nat} {V w1 : World} {x y z : Value} (h : C3 V g x y z) (hk : Kp R V.heap.size V w1) (hn : g ≠ R) : C3 w1 g x y z := by
  obtain ⟨a, b, c, d, e, f, u⟩ := h
  have hz := hk.size
  exact ⟨(hk.cell u hn).trans a, (hk.cell u hn).trans b, (hk.cell u hn).trans c, (hk.frozen u hn).trans d, (hk.frozen u hn).trans e, (hk.frozen u hn).trans f, by omega⟩

set_option maxHeartbeats 2000000 in
theorem someDec_any (R : Nat) (K : Int) (w : World) (h : Rd R K w) (hK : K ≤ 800) :
    Calls Tryz.prog 54 #[.pointer (some ⟨R, 0, none⟩)] w fun r w' => IsDec r ∧ Rd R (K + 20) w' ∧ Kp R w.heap.size w w' := by
  have hR := h.1
  have hr := h
  have zA := Z3.new w
  have hgR : w.heap.size ≠ R := by omega
  go_enter Tryz.func54, Tryz.ntmps54
  go_wp2_with (first
    | (go_at_call 94; refine Calls.mono (goodDec_any R _ _ (hr.up _) ?_) ?_; omega; rintro r w1 ⟨⟨n, c, e, rfl⟩, hr, hk⟩; have hR1 := hr.1; have hne := Nat.ne_of_gt hr.1; have hz := hk.size; (try simp at hz); (try obtain ⟨q0, q1, q2, z0, z1, z2, qz⟩ := Kp.dec hk (by omega)); (try (have zN := Z3.kp (by first | with_reducible exact zA | with_reducible exact zA.up _ | with_reducible exact (zA.up _).up _) hk hgR; clear zA; have zA := zN; clear zN; have zC := zA; obtain ⟨y0, y1, y2, y3, y4, y5, y6⟩ := zC; have hnw := Nat.ne_of_lt y6; have hnw2 := Nat.ne_of_gt y6)))
    | (go_at_call 52; (first | with_reducible refine Calls.mono (pick_any R _ _ _ hr ?_) ?_ | with_reducible refine Calls.mono (pick_any R _ _ _ (hr.up _) ?_) ?_ | with_reducible refine Calls.mono (pick_any R _ _ _ ((hr.up _).up _) ?_) ?_ | with_reducible refine Calls.mono (pick_any R _ _ _ ((((hr.up _).set (by omega) _).set (by omega) _).set (by omega) _) ?_) ?_ | with_reducible refine Calls.mono (pick_any R _ _ _ (((((hr.up _).set (by omega) _).set (by omega) _).set (by omega) _).up _) ?_) ?_ | with_reducible refine Calls.mono (pick_any R _ _ _ (hr.set (by omega) _) ?_) ?_ | with_reducible refine Calls.mono (pick_any R _ _ _ ((hr.set (by omega) _).up _) ?_) ?_); omega; rintro r w1 ⟨⟨x, rfl, hx0, hx1⟩, hr, hk⟩; have hR1 := hr.1; have hne := Nat.ne_of_gt hr.1; have hz := hk.size; (try simp at hz); (try (have zN := Z3.kp (by first | with_reducible exact zA | with_reducible exact zA.up _ | with_reducible exact (zA.up _).up _) hk hgR; clear zA; have zA := zN; clear zN; have zC := zA; obtain ⟨y0, y1, y2, y3, y4, y5, y6⟩ := zC; have hnw := Nat.ne_of_lt y6; have hnw2 := Nat.ne_of_gt y6)); have zB := C3.dec hk (by omega); have zD := zB; obtain ⟨b0, b1, b2, b3, b4, b5, b6⟩ := zD)
    | (go_at_call 79; (first | with_reducible refine Calls.mono (one_any R _ _ _ _ _ hr ?_ ?_ ?_ ?_) ?_ | with_reducible refine Calls.mono (one_any R _ _ _ _ _ (hr.up _) ?_ ?_ ?_ ?_) ?_ | with_reducible refine Calls.mono (one_any R _ _ _ _ _ ((hr.up _).up _) ?_ ?_ ?_ ?_) ?_ | with_reducible refine Calls.mono (one_any R _ _ _ _ _ ((((hr.up _).set (by omega) _).set (by omega) _).set (by omega) _) ?_ ?_ ?_ ?_) ?_ | with_reducible refine Calls.mono (one_any R _ _ _ _ _ (((((hr.up _).set (by omega) _).set (by omega) _).set (by omega) _).up _) ?_ ?_ ?_ ?_) ?_ | with_reducible refine Calls.mono (one_any R _ _ _ _ _ (hr.set (by omega) _) ?_ ?_ ?_ ?_) ?_ | with_reducible refine Calls.mono (one_any R _ _ _ _ _ ((hr.set (by omega) _).up _) ?_ ?_ ?_ ?_) ?_); omega; omega; exact Nums.new _ _ _ 2 (by simp) rfl; omega; rintro r w1 ⟨⟨y, rfl⟩, hr, hk⟩; have hR1 := hr.1; have hne := Nat.ne_of_gt hr.1; have hz := hk.size; (try simp at hz); (try (have zN := Z3.kp (by first | with_reducible exact zA | with_reducible exact zA.up _ | with_reducible exact (zA.up _).up _) hk hgR; clear zA; have zA := zN; clear zN; have zC := zA; obtain ⟨y0, y1, y2, y3, y4, y5, y6⟩ := zC; have hnw := Nat.ne_of_lt y6; have hnw2 := Nat.ne_of_gt y6)); have zM := C3.kp (zB.up _) hk (by omega); obtain ⟨c0, c1, c2, c3, c4, c5, c6⟩ := zM))
  · have hrm := hr.mono (show _ ≤ K + 20 by omega)
    exact bodyPost_ret (v := .agg #[.bool n, .int .i64 y, .int .i64 e]) (by simp [results, Tryz.results54, go_sem, *]) rfl ⟨IsDec.mk _ _ _, (by repeat (first | with_reducible assumption | with_reducible refine Rd.up ?_ _ | with_reducible refine Rd.drew ?_ | with_reducible refine Rd.set ?_ (by first | omega | (simp; done) | (simp <;> omega)) _)), (by repeat (first | with_reducible assumption | with_reducible exact Kp.refl _ _ _ | with_reducible refine Kp.up ?_ (by first | omega | (simp; done) | (simp <;> omega)) _ | with_reducible refine Kp.set ?_ (by first | omega | (simp; done) | (simp <;> omega)) _ _ | with_reducible refine Kp.drew ?_ | with_reducible refine Kp.step ?_ (by with_reducible assumption)))⟩
  · have hrm := hr.mono (show _ ≤ K + 20 by omega)
    exact bodyPost_ret (v := .agg #[.bool n, .int .i64 c, .int .i64 y]) (by simp [results, Tryz.results54, go_sem, *]) rfl ⟨IsDec.mk _ _ _, (by repeat (first | with_reducible assumption | with_reducible refine Rd.up ?_ _ | with_reducible refine Rd.drew ?_ | with_reducible refine Rd.set ?_ (by first | omega | (simp; done) | (simp <;> omega)) _)), (by repeat (first | with_reducible assumption | with_reducible exact Kp.refl _ _ _ | with_reducible refine Kp.up ?_ (by first | omega | (simp; done) | (simp <;> omega)) _ | with_reducible refine Kp.set ?_ (by first | omega | (simp; done) | (simp <;> omega)) _ _ | with_reducible refine Kp.drew ?_ | with_reducible refine Kp.step ?_ (by with_reducible assumption)))⟩
  · have hrm := hr.mono (show _ ≤ K + 20 by omega)
    exact bodyPost_ret (v := .agg #[.bool (!n), .int .i64 c, .int .i64 e]) (by simp [results, Tryz.results54, go_sem, *]) rfl ⟨IsDec.mk _ _ _, (by repeat (first | with_reducible assumption | with_reducible refine Rd.up ?_ _ | with_reducible refine Rd.drew ?_ | with_reducible refine Rd.set ?_ (by first | omega | (simp; done) | (simp <;> omega)) _)), (by repeat (first | with_reducible assumption | with_reducible exact Kp.refl _ _ _ | with_reducible refine Kp.up ?_ (by first | omega | (simp; done) | (simp <;> omega)) _ | with_reducible refine Kp.set ?_ (by first | omega | (simp; done) | (simp <;> omega)) _ _ | with_reducible refine Kp.drew ?_ | with_reducible refine Kp.step ?_ (by with_reducible assumption)))⟩
  · have hrm := hr.mono (show _ ≤ K + 20 by omega)
    exact bodyPost_ret (v := .agg #[.bool n, .int .i64 c, .int .i64 e]) (by simp [results, Tryz.results54, go_sem, *]) rfl ⟨IsDec.mk _ _ _, (by repeat (first | with_reducible assumption | with_reducible refine Rd.up ?_ _ | with_reducible refine Rd.drew ?_ | with_reducible refine Rd.set ?_ (by first | omega | (simp; done) | (simp <;> omega)) _)), (by repeat (first | with_reducible assumption | with_reducible exact Kp.refl _ _ _ | with_reducible refine Kp.up ?_ (by first | omega | (simp; done) | (simp <;> omega)) _ | with_reducible refine Kp.set ?_ (by first | omega | (simp; done) | (simp <;> omega)) _ _ | with_reducible refine Kp.drew ?_ | with_reducible refine Kp.step ?_ (by with_reducible assumption)))⟩
end Go.Proofs.YtejganoipbblcaaGreatDoor
namespace Go.Proofs.YtejganoipbblcaaGreatDoor
open Go.RowKit
/-- the 3 cells of a struct, as a later world has them -/
structure T3 (w : World) (g : Nat) (v0 v1 v2 : Value) : Prop where
  c0 : w.cell? ⟨g, 0, none⟩ = some v0
  c1 : w.cell? ⟨g, 1, none⟩ = some v1
  c2 : w.cell? ⟨g, 2, none⟩ = some v2
  fz : ∀ o, w.frozen? ⟨g, o, none⟩ = false
  lt : g < w.heap.size
theorem T3.new (V : World) (v0 v1 v2 : Value) (t : TypeId) : T3 (V.alloc (.cells #[v0, v1, v2] t)) V.heap.size v0 v1 v2 := by
  constructor <;> simp [go_sem]
theorem T3.keep {w w' : World} {g : Nat} {v0 v1 v2 : Value} (h : T3 w g v0 v1 v2) (hs : w.heap.size ≤ w'.heap.size) (hc : ∀ o, w'.cell? ⟨g, o, none⟩ = w.cell? ⟨g, o, none⟩) (hf : ∀ o, w'.frozen? ⟨g, o, none⟩ = w.frozen? ⟨g, o, none⟩) : T3 w' g v0 v1 v2 :=
  ⟨(hc _).trans h.c0, (hc _).trans h.c1, (hc _).trans h.c2, fun o => (hf o).trans (h.fz o), Nat.lt_of_lt_of_le h.lt hs⟩
theorem T3.carry {g : Nat} {w w' : World} {v0 v1 v2 : Value} (h : T3 w g v0 v1 v2) (hb : Below w.heap.size w w') : T3 w' g v0 v1 v2 :=
  h.keep hb.size (fun o => hb.cell (p := ⟨g, o, none⟩) h.lt) (fun o => hb.frozen (p := ⟨g, o, none⟩) h.lt)
theorem T3.up {g : Nat} {w : World} {v0 v1 v2 : Value} (h : T3 w g v0 v1 v2) (o : Obj) : T3 (w.alloc o) g v0 v1 v2 := h.carry ((Below.refl _ _).alloc (Nat.le_refl _) _)
theorem T3.drew {g : Nat} {w : World} {v0 v1 v2 : Value} (h : T3 w g v0 v1 v2) : T3 w.drew g v0 v1 v2 := h.keep (Nat.le_refl _) (fun _ => rfl) (fun _ => rfl)
theorem T3.far {g : Nat} {w : World} {v0 v1 v2 : Value} (h : T3 w g v0 v1 v2) {b o : Nat} (hn : b ≠ g) (v : Value) : T3 (w.setCell ⟨b, o, none⟩ v) g v0 v1 v2 :=
  h.keep ((Below.setCell (p := ⟨b, o, none⟩) (Below.refl 0 w) (Nat.zero_le _) v).size) (fun _ => World.cell?_setCell_far _ ⟨b, o, none⟩ _ _ hn) (fun _ => set_frozen _ _ _ _ _)
theorem T3.set0 {g : Nat} {w : World} {v0 v1 v2 : Value} (h : T3 w g v0 v1 v2) (x : Value) : T3 (w.setCell ⟨g, 0, none⟩ x) g x v1 v2 := by
  obtain ⟨h0, h1, h2, hf, hl⟩ := h
  have hz := (Below.setCell (p := ⟨g, 0, none⟩) (Below.refl 0 w) (Nat.zero_le _) x).size
  constructor <;> first | (simp [go_sem, *]; done) | (intro o; rw [set_frozen]; exact hf o) | omega
theorem T3.set1 {g : Nat} {w : World} {v0 v1 v2 : Value} (h : T3 w g v0 v1 v2) (x : Value) : T3 (w.setCell ⟨g, 1, none⟩ x) g v0 x v2 := by
  obtain ⟨h0, h1, h2, hf, hl⟩ := h
  have hz := (Below.setCell (p := ⟨g, 1, none⟩) (Below.refl 0 w) (Nat.zero_le _) x).size
  constructor <;> first | (simp [go_sem, *]; done) | (intro o; rw [set_frozen]; exact hf o) | omega
theorem T3.set2 {g : Nat} {w : World} {v0 v1 v2 : Value} (h : T3 w g v0 v1 v2) (x : Value) : T3 (w.setCell ⟨g, 2, none⟩ x) g v0 v1 x := by
  obtain ⟨h0, h1, h2, hf, hl⟩ := h
  have hz := (Below.setCell (p := ⟨g, 2, none⟩) (Below.refl 0 w) (Nat.zero_le _) x).size
  constructor <;> first | (simp [go_sem, *]; done) | (intro o; rw [set_frozen]; exact hf o) | omega
theorem T3.since {W : World} {g : Nat} {v0 v1 v2 : Value} (h : T3 W g v0 v1 v2) : (∀ p : Since W, p.v.cell? ⟨g, 0, none⟩ = some v0) ∧ (∀ p : Since W, p.v.cell? ⟨g, 1, none⟩ = some v1) ∧ (∀ p : Since W, p.v.cell? ⟨g, 2, none⟩ = some v2) :=
  ⟨fun p => (h.carry p.h).c0, fun p => (h.carry p.h).c1, fun p => (h.carry p.h).c2⟩
theorem T3.carry_of {W0 V w1 : World} {g : Nat} {u0 u1 u2 v0 v1 v2 : Value} (_ : T3 W0 g u0 u1 u2) (h : T3 V g v0 v1 v2) (hb : Below V.heap.size V w1) : T3 w1 g v0 v1 v2 := h.carry hb
theorem T3.kp {R g : Nat} {w w' : World} {v0 v1 v2 : Value} (h : T3 w g v0 v1 v2) (hk : Kp R w.heap.size w w') (hn : g ≠ R) : T3 w' g v0 v1 v2 :=
  h.keep hk.size (fun _ => hk.cell h.lt hn) (fun _ => hk.frozen h.lt hn)
theorem T3.kp_of {W0 V w1 : World} {R g : Nat} {u0 u1 u2 v0 v1 v2 : Value} (_ : T3 W0 g u0 u1 u2) (h : T3 V g v0 v1 v2) (hk : Kp R V.heap.size V w1) (hn : g ≠ R) : T3 w1 g v0 v1 v2 := h.kp hk hn
theorem below_end {R : Nat} {w wa wb : World} (h : Below w.heap.size w wa) (hk : Kp R wa.heap.size wa wb) (hR : w.heap.size ≤ R) (hR1 : R < wa.heap.size) : Below w.heap.size w wb := below_kp h hk hR (by omega)
theorem some_of {W0 : World} {R : Nat} {K : Int} {w : World} (_ : Rd R K W0) (h : Rd R K w) (hK : K ≤ 800) :
    Calls Tryz.prog 53 #[.pointer (some ⟨R, 0, none⟩)] w fun r w' => IsSp r ∧ Rd R (K + 30) w' ∧ Kp R w.heap.size w w' := someSpec_any R K w h hK
theorem dec_of {W0 : World} {R : Nat} {K : Int} {w : World} (_ : Rd R K W0) (h : Rd R K w) (hK : K ≤ 800) :
    Calls Tryz.prog 54 #[.pointer (some ⟨R, 0, none⟩)] w fun r w' => IsDec r ∧ Rd R (K + 20) w' ∧ Kp R w.heap.size w w' := someDec_any R K w h hK
def IsSpD (r : Ending) : Prop := ∃ f al si alt ze wi gr pr t n c e, r = .returned (.tuple #[.agg #[.string f, .int .i64 al, .int .i64 si, .bool alt, .bool ze, .int .i64 wi, .int .i64 gr, .int .i64 pr, .string t], .agg #[.bool n, .int .i64 c, .int .i64 e]])
theorem IsSpD.mk (f : ByteArray) (al si : Int) (alt ze : Bool) (wi gr pr : Int) (t : ByteArray) (n : Bool) (c e : Int) : IsSpD (.returned (.tuple #[.agg #[.string f, .int .i64 al, .int .i64 si, .bool alt, .bool ze, .int .i64 wi, .int .i64 gr, .int .i64 pr, .string t], .agg #[.bool n, .int .i64 c, .int .i64 e]])) := ⟨f, al, si, alt, ze, wi, gr, pr, t, n, c, e, rfl⟩
/-- what holds when the specification is drawn -/
def MidD (R : Nat) (K : Int) (rb : Nat) (wa : World) (g : Nat) (wx : World) : Prop :=
  Rd R K wx ∧ Kp R wa.heap.size wa wx ∧ C9 wx rb (.string ⟨#[]⟩) (.int .i64 0) (.int .i64 0) (.bool false) (.bool false) (.int .i64 0) (.int .i64 0) (.int .i64 0) (.string ⟨#[]⟩) ∧ T3 wx (rb + 1) (.bool false) (.int .i64 0) (.int .i64 0) ∧ wa.heap.size ≤ g ∧ g ≠ R ∧ ∃ f al si alt ze wi gr pr t, C9 wx g (.string f) (.int .i64 al) (.int .i64 si) (.bool alt) (.bool ze) (.int .i64 wi) (.int .i64 gr) (.int .i64 pr) (.string t)
theorem MidD.mk {R : Nat} {K K' : Int} {rb : Nat} {wa W0 : World} {g : Nat} {wx : World} {f : ByteArray} {al si : Int} {alt ze : Bool} {wi gr pr : Int} {t : ByteArray} (_ : Rd R K' W0) (hr : Rd R K' wx) (hle : K' ≤ K) (hk : Kp R wa.heap.size wa wx) (zr : C9 wx rb (.string ⟨#[]⟩) (.int .i64 0) (.int .i64 0) (.bool false) (.bool false) (.int .i64 0) (.int .i64 0) (.int .i64 0) (.string ⟨#[]⟩)) (zd : T3 wx (rb + 1) (.bool false) (.int .i64 0) (.int .i64 0)) (hg : wa.heap.size ≤ g) (hn : g ≠ R) (zs : C9 wx g (.string f) (.int .i64 al) (.int .i64 si) (.bool alt) (.bool ze) (.int .i64 wi) (.int .i64 gr) (.int .i64 pr) (.string t)) : MidD R K rb wa g wx :=
  ⟨hr.mono hle, hk, zr, zd, hg, hn, f, al, si, alt, ze, wi, gr, pr, t, zs⟩
set_option maxRecDepth 100000 in
set_option maxHeartbeats 8000000 in
theorem DrawFormatReal_any (s : Option Addr) (len cap : Nat) (w : World) (h : CodeAt s len w.heap.size w) (hcap : len ≤ cap) :
    Calls Tryz.prog 17 #[.slice s len cap] w fun r w' => IsSpD r ∧ Below w.heap.size w w' := by
  have zr0 := (C9.new w (.string ⟨#[]⟩) (.int .i64 0) (.int .i64 0) (.bool false) (.bool false) (.int .i64 0) (.int .i64 0) (.int .i64 0) (.string ⟨#[]⟩) 24).up (.cells #[.bool false, .int .i64 0, .int .i64 0] 31)
  have zd0 : T3 ((w.alloc (.cells #[.string ⟨#[]⟩, .int .i64 0, .int .i64 0, .bool false, .bool false, .int .i64 0, .int .i64 0, .int .i64 0, .string ⟨#[]⟩] 24)).alloc (.cells #[.bool false, .int .i64 0, .int .i64 0] 31)) (w.heap.size + 1) (.bool false) (.int .i64 0) (.int .i64 0) := by
    have h := T3.new (w.alloc (.cells #[.string ⟨#[]⟩, .int .i64 0, .int .i64 0, .bool false, .bool false, .int .i64 0, .int .i64 0, .int .i64 0, .string ⟨#[]⟩] 24)) (.bool false) (.int .i64 0) (.int .i64 0) 31
    rw [show (w.alloc (.cells #[.string ⟨#[]⟩, .int .i64 0, .int .i64 0, .bool false, .bool false, .int .i64 0, .int .i64 0, .int .i64 0, .string ⟨#[]⟩] 24)).heap.size = w.heap.size + 1 by simp] at h
    exact h
  have hB0 : Below w.heap.size w ((w.alloc (.cells #[.string ⟨#[]⟩, .int .i64 0, .int .i64 0, .bool false, .bool false, .int .i64 0, .int .i64 0, .int .i64 0, .string ⟨#[]⟩] 24)).alloc (.cells #[.bool false, .int .i64 0, .int .i64 0] 31)) := ((Below.refl _ _).alloc (Nat.le_refl _) _).alloc (by simp) _
  go_enter Tryz.func17, Tryz.ntmps17
  go_upto_if 12 with (first | (go_at_call 50; (with_reducible refine Calls.mono (newReader_any _ _ _ _ ((h.up _).up _) hcap) ?_); rintro r wa ⟨R, rfl, hR, hr, hbR⟩; (try simp at hR); have hBa := hB0.trans (hbR.mono hB0.size); have zr := zr0.carry hbR; have zd := zd0.carry hbR; have hkM := Kp.refl R wa.heap.size wa; have hRw := hr.1; have hz := hkM.size; have hgR : w.heap.size ≠ R := (by omega); have zl := zr.lt; have hgD : w.heap.size + 1 ≠ R := (by omega); have hll := zd.lt) | (go_at_call 51; (with_reducible refine Calls.mono (spec_of _ hr (by repeat (first | with_reducible assumption | with_reducible refine Rd.up ?_ _ | with_reducible refine Rd.drew ?_ | with_reducible refine Rd.set ?_ (by first | omega | (simp; done) | (simp <;> omega)) _)) ?_) ?_); omega; rintro r wb ⟨⟨f, al, si, alt, ze, wi, gr, pr, t, rfl⟩, hrN, hk⟩; have hkN : Kp R wa.heap.size wa wb := Kp.step (by repeat (first | with_reducible assumption | with_reducible exact Kp.refl _ _ _ | with_reducible refine Kp.up ?_ (by first | omega | (simp; done) | (simp <;> omega)) _ | with_reducible refine Kp.set ?_ (by first | omega | (simp; done) | (simp <;> omega)) _ _ | with_reducible refine Kp.drew ?_ | with_reducible refine Kp.step ?_ (by with_reducible assumption))) hk; have zdN := T3.kp_of zd (by repeat (first | with_reducible assumption | with_reducible apply T3.up | (with_reducible apply T3.far; (case hn => (first | omega | (simp; omega)))) | with_reducible apply T3.set0 | with_reducible apply T3.set1 | with_reducible apply T3.set2 | with_reducible apply T3.drew)) hk hgD; have zrN := C9.kp_of zr (by repeat (first | with_reducible assumption | with_reducible apply C9.up | (with_reducible apply C9.far; (case hn => (first | omega | (simp; omega)))) | with_reducible apply C9.set0 | with_reducible apply C9.set1 | with_reducible apply C9.set2 | with_reducible apply C9.set3 | with_reducible apply C9.set4 | with_reducible apply C9.set5 | with_reducible apply C9.set6 | with_reducible apply C9.set7 | with_reducible apply C9.set8 | with_reducible apply C9.drew)) hk hgR; clear hr zr zd hkM hz hk; have hr := hrN; have zr := zrN; have zd := zdN; clear zdN; (try clear u0 u1 u2 uf ul); have zz4 := zd; obtain ⟨u0, u1, u2, uf, ul⟩ := zz4; have hkM := hkN; clear hrN zrN hkN; have hz := hkM.size; have zl := zr.lt) | (go_at_call 52; (with_reducible refine Calls.mono (pick_of _ hr (by repeat (first | with_reducible assumption | with_reducible refine Rd.up ?_ _ | with_reducible refine Rd.drew ?_ | with_reducible refine Rd.set ?_ (by first | omega | (simp; done) | (simp <;> omega)) _)) ?_) ?_); omega; rintro r wc ⟨⟨kk, rfl, hx0, hx1⟩, hrN, hk⟩; have hkN : Kp R wa.heap.size wa wc := Kp.step (by repeat (first | with_reducible assumption | with_reducible exact Kp.refl _ _ _ | with_reducible refine Kp.up ?_ (by first | omega | (simp; done) | (simp <;> omega)) _ | with_reducible refine Kp.set ?_ (by first | omega | (simp; done) | (simp <;> omega)) _ _ | with_reducible refine Kp.drew ?_ | with_reducible refine Kp.step ?_ (by with_reducible assumption))) hk; have zdN := T3.kp_of zd (by repeat (first | with_reducible assumption | with_reducible apply T3.up | (with_reducible apply T3.far; (case hn => (first | omega | (simp; omega)))) | with_reducible apply T3.set0 | with_reducible apply T3.set1 | with_reducible apply T3.set2 | with_reducible apply T3.drew)) hk hgD; have zrN := C9.kp_of zr (by repeat (first | with_reducible assumption | with_reducible apply C9.up | (with_reducible apply C9.far; (case hn => (first | omega | (simp; omega)))) | with_reducible apply C9.set0 | with_reducible apply C9.set1 | with_reducible apply C9.set2 | with_reducible apply C9.set3 | with_reducible apply C9.set4 | with_reducible apply C9.set5 | with_reducible apply C9.set6 | with_reducible apply C9.set7 | with_reducible apply C9.set8 | with_reducible apply C9.drew)) hk hgR; have zs := C9.kp (C9.new wb _ _ _ _ _ _ _ _ _ _) hk (by omega); have hgS : wb.heap.size ≠ R := (by omega); have hgG : wa.heap.size ≤ wb.heap.size := (by omega); clear hr zr zd hkM hz hk hx0 hx1; have hr := hrN; have zr := zrN; have zd := zdN; clear zdN; (try clear u0 u1 u2 uf ul); have zz4 := zd; obtain ⟨u0, u1, u2, uf, ul⟩ := zz4; have hkM := hkN; clear hrN zrN hkN; have hz := hkM.size; have zl := zr.lt; have zz := zs; obtain ⟨x0, x1, x2, x3, x4, x5, x6, x7, x8, xf, xl⟩ := zz))
  go_cut [] (fun wx => MidD R 60 w.heap.size wa wb.heap.size wx)
  case first =>
    go_wp2_with ((go_at_call 53; (with_reducible refine Calls.mono (some_of hr (by repeat (first | with_reducible assumption | with_reducible refine Rd.up ?_ _ | with_reducible refine Rd.drew ?_ | with_reducible refine Rd.set ?_ (by first | omega | (simp; done) | (simp <;> omega)) _)) ?_) ?_); omega; rintro r wd ⟨⟨f2, al2, si2, alt2, ze2, wi2, gr2, pr2, t2, rfl⟩, hrN, hk⟩; have hkN : Kp R wa.heap.size wa wd := Kp.step (by repeat (first | with_reducible assumption | with_reducible exact Kp.refl _ _ _ | with_reducible refine Kp.up ?_ (by first | omega | (simp; done) | (simp <;> omega)) _ | with_reducible refine Kp.set ?_ (by first | omega | (simp; done) | (simp <;> omega)) _ _ | with_reducible refine Kp.drew ?_ | with_reducible refine Kp.step ?_ (by with_reducible assumption))) hk; have zdN := T3.kp_of zd (by repeat (first | with_reducible assumption | with_reducible apply T3.up | (with_reducible apply T3.far; (case hn => (first | omega | (simp; omega)))) | with_reducible apply T3.set0 | with_reducible apply T3.set1 | with_reducible apply T3.set2 | with_reducible apply T3.drew)) hk hgD; have zrN := C9.kp_of zr (by repeat (first | with_reducible assumption | with_reducible apply C9.up | (with_reducible apply C9.far; (case hn => (first | omega | (simp; omega)))) | with_reducible apply C9.set0 | with_reducible apply C9.set1 | with_reducible apply C9.set2 | with_reducible apply C9.set3 | with_reducible apply C9.set4 | with_reducible apply C9.set5 | with_reducible apply C9.set6 | with_reducible apply C9.set7 | with_reducible apply C9.set8 | with_reducible apply C9.drew)) hk hgR; have zsN := C9.kp_of zs (by repeat (first | with_reducible assumption | with_reducible apply C9.up | (with_reducible apply C9.far; (case hn => (first | omega | (simp; omega)))) | with_reducible apply C9.set0 | with_reducible apply C9.set1 | with_reducible apply C9.set2 | with_reducible apply C9.set3 | with_reducible apply C9.set4 | with_reducible apply C9.set5 | with_reducible apply C9.set6 | with_reducible apply C9.set7 | with_reducible apply C9.set8 | with_reducible apply C9.drew)) hk hgS; clear hr zr zd hkM hz hk zs x0 x1 x2 x3 x4 x5 x6 x7 x8 xf xl; have hr := hrN; have zr := zrN; have zd := zdN; clear zdN; (try clear u0 u1 u2 uf ul); have zz4 := zd; obtain ⟨u0, u1, u2, uf, ul⟩ := zz4; have hkM := hkN; clear hrN zrN hkN; have zs := zsN; clear zsN; have zz := zs; obtain ⟨x0, x1, x2, x3, x4, x5, x6, x7, x8, xf, xl⟩ := zz; (try clear y0 y1 y2 y3 y4 y5 y6 y7 y8 yf yl); have zz2 := zr; obtain ⟨y0, y1, y2, y3, y4, y5, y6, y7, y8, yf, yl⟩ := zz2; have hz := hkM.size; have zl := zr.lt))
    all_goals go_meet
    all_goals exact MidD.mk hr (by repeat (first | with_reducible assumption | with_reducible refine Rd.up ?_ _ | with_reducible refine Rd.drew ?_ | with_reducible refine Rd.set ?_ (by first | omega | (simp; done) | (simp <;> omega)) _)) (by omega) (by repeat (first | with_reducible assumption | with_reducible exact Kp.refl _ _ _ | with_reducible refine Kp.up ?_ (by first | omega | (simp; done) | (simp <;> omega)) _ | with_reducible refine Kp.set ?_ (by first | omega | (simp; done) | (simp <;> omega)) _ _ | with_reducible refine Kp.drew ?_ | with_reducible refine Kp.step ?_ (by with_reducible assumption))) (by repeat (first | with_reducible assumption | with_reducible apply C9.up | (with_reducible apply C9.far; (case hn => (first | omega | (simp; omega)))) | with_reducible apply C9.set0 | with_reducible apply C9.set1 | with_reducible apply C9.set2 | with_reducible apply C9.set3 | with_reducible apply C9.set4 | with_reducible apply C9.set5 | with_reducible apply C9.set6 | with_reducible apply C9.set7 | with_reducible apply C9.set8 | with_reducible apply C9.drew)) (by repeat (first | with_reducible assumption | with_reducible apply T3.up | (with_reducible apply T3.far; (case hn => (first | omega | (simp; omega)))) | with_reducible apply T3.set0 | with_reducible apply T3.set1 | with_reducible apply T3.set2 | with_reducible apply T3.drew)) hgG hgS (by repeat (first | with_reducible assumption | with_reducible apply C9.up | (with_reducible apply C9.far; (case hn => (first | omega | (simp; omega)))) | with_reducible apply C9.set0 | with_reducible apply C9.set1 | with_reducible apply C9.set2 | with_reducible apply C9.set3 | with_reducible apply C9.set4 | with_reducible apply C9.set5 | with_reducible apply C9.set6 | with_reducible apply C9.set7 | with_reducible apply C9.set8 | with_reducible apply C9.drew))
  case rest =>
    clear zr zd zs hr hkM hz zl zr0 zd0 hB0 x0 x1 x2 x3 x4 x5 x6 x7 x8 xf xl
    obtain ⟨hr, hkM, zr, zd, hgG, hgS, f, al, si, alt, ze, wi, gr, pr, t, zs⟩ := hcut
    have hz := hkM.size
    have zl := zr.lt
    have zz := zs
    obtain ⟨x0, x1, x2, x3, x4, x5, x6, x7, x8, xf, xl⟩ := zz
    have zz2 := zr
    obtain ⟨y0, y1, y2, y3, y4, y5, y6, y7, y8, yf, yl⟩ := zz2
    have zz4 := zd
    obtain ⟨u0, u1, u2, uf, ul⟩ := zz4
    go_wp2
    all_goals go_region_with (first | (go_at_call 54; (with_reducible refine Calls.mono (dec_of hr (by repeat (first | with_reducible assumption | with_reducible refine Rd.up ?_ _ | with_reducible refine Rd.drew ?_ | with_reducible refine Rd.set ?_ (by first | omega | (simp; done) | (simp <;> omega)) _)) ?_) ?_); omega; rintro r we ⟨⟨n, c, e, rfl⟩, hrN, hk⟩; have hkN : Kp R wa.heap.size wa we := Kp.step (by repeat (first | with_reducible assumption | with_reducible exact Kp.refl _ _ _ | with_reducible refine Kp.up ?_ (by first | omega | (simp; done) | (simp <;> omega)) _ | with_reducible refine Kp.set ?_ (by first | omega | (simp; done) | (simp <;> omega)) _ _ | with_reducible refine Kp.drew ?_ | with_reducible refine Kp.step ?_ (by with_reducible assumption))) hk; have zdN := T3.kp_of zd (by repeat (first | with_reducible assumption | with_reducible apply T3.up | (with_reducible apply T3.far; (case hn => (first | omega | (simp; omega)))) | with_reducible apply T3.set0 | with_reducible apply T3.set1 | with_reducible apply T3.set2 | with_reducible apply T3.drew)) hk hgD; have zrN := C9.kp_of zr (by repeat (first | with_reducible assumption | with_reducible apply C9.up | (with_reducible apply C9.far; (case hn => (first | omega | (simp; omega)))) | with_reducible apply C9.set0 | with_reducible apply C9.set1 | with_reducible apply C9.set2 | with_reducible apply C9.set3 | with_reducible apply C9.set4 | with_reducible apply C9.set5 | with_reducible apply C9.set6 | with_reducible apply C9.set7 | with_reducible apply C9.set8 | with_reducible apply C9.drew)) hk hgR; have zsN := C9.kp_of zs (by repeat (first | with_reducible assumption | with_reducible apply C9.up | (with_reducible apply C9.far; (case hn => (first | omega | (simp; omega)))) | with_reducible apply C9.set0 | with_reducible apply C9.set1 | with_reducible apply C9.set2 | with_reducible apply C9.set3 | with_reducible apply C9.set4 | with_reducible apply C9.set5 | with_reducible apply C9.set6 | with_reducible apply C9.set7 | with_reducible apply C9.set8 | with_reducible apply C9.drew)) hk hgS; clear hr zr zd hkM hz hk zs x0 x1 x2 x3 x4 x5 x6 x7 x8 xf xl; have hr := hrN; have zr := zrN; have zd := zdN; clear zdN; (try clear u0 u1 u2 uf ul); have zz4 := zd; obtain ⟨u0, u1, u2, uf, ul⟩ := zz4; have hkM := hkN; clear hrN zrN hkN; have zs := zsN; clear zsN; have zz := zs; obtain ⟨x0, x1, x2, x3, x4, x5, x6, x7, x8, xf, xl⟩ := zz; (try clear y0 y1 y2 y3 y4 y5 y6 y7 y8 yf yl); have zz2 := zr; obtain ⟨y0, y1, y2, y3, y4, y5, y6, y7, y8, yf, yl⟩ := zz2; have hz := hkM.size; have zl := zr.lt))
    all_goals go_wp2
    all_goals (
      refine bodyPost_ret (v := .tuple #[.agg #[.string f, .int .i64 al, .int .i64 si, .bool alt, .bool ze, .int .i64 wi, .int .i64 gr, .int .i64 pr, .string t], .agg #[.bool n, .int .i64 c, .int .i64 e]]) ?_ rfl ⟨IsSpD.mk _ _ _ _ _ _ _ _ _ _ _ _, (by have hB := below_end hBa hkM (by omega) hRw; repeat (first | with_reducible exact Below.refl _ _ | with_reducible assumption | with_reducible refine Below.setCell ?_ (by first | omega | (simp; done) | (simp <;> omega)) _ | with_reducible refine below_drewN ?_ _ | with_reducible refine Below.drew ?_ | with_reducible refine Below.alloc ?_ (by first | omega | (simp; done) | (simp <;> omega)) _))⟩; simp [results, Tryz.results17, go_sem, *]; done)
end Go.Proofs.YtejganoipbblcaaGreatDoor
namespace Go.Proofs.YtejganoipbblcaaGreatDoor
open Go Go.RowKit
theorem C3.carry_of {W0 V w1 : World} {g : Nat} {u0 u1 u2 v0 v1 v2 : Value} (_ : C3 W0 g u0 u1 u2) (h : C3 V g v0 v1 v2) (hb : Below V.heap.size V w1) : C3 w1 g v0 v1 v2 := h.carry hb
theorem rOk_open {f : ByteArray} {al si : Int} {alt ze : Bool} {wi gr pr : Int} {t : ByteArray} {n : Bool} {c e : Int} (h : rOk f al si alt ze wi gr pr t n c e = true) :
    VS f al si wi gr pr t ∧ suitT al si alt ze gr pr t 1 = true ∧ Fd.vld ⟨n, c, e⟩ = true := by
  unfold rOk grB at h
  simp only [Bool.and_eq_true] at h
  exact ⟨vSp_open h.1, h.2.1, h.2.2⟩
theorem rOk_other {f f' : ByteArray} {al si al' si' : Int} {alt ze alt' : Bool} (ze' : Bool) {wi gr pr gr' : Int} {t : ByteArray} {n : Bool} {c e : Int} (h : rOk f al si alt ze wi gr pr t n c e = true)
    (ha : 0 ≤ al' ∧ al' ≤ 4) (hs : 0 ≤ si' ∧ si' ≤ 3) (hg : 0 ≤ gr' ∧ gr' ≤ 2) (hf : okFill f' al' = true) (hal : alt' = true → alt = true) : rOk f' al' si' alt' ze' 0 gr' pr t n c e = true := by
  obtain ⟨V, hst, hd⟩ := rOk_open h
  unfold rOk grB
  have h1 : vSp f' al' si' 0 gr' pr t = true := by
    simp only [vSp, inr, Bool.and_eq_true, decide_eq_true_eq]
    exact ⟨⟨⟨⟨⟨⟨ha, hs⟩, hg⟩, by omega, by omega⟩, V.pr0, V.pr9⟩, hf⟩, V.type⟩
  have h2 : suitT al' si' alt' ze' gr' pr t 1 = true := by
    unfold suitT at hst ⊢
    split at hst
    · rename_i e0
      rw [if_neg (by decide), if_pos rfl] at hst ⊢
      simp only [Bool.and_eq_true, Bool.not_eq_true'] at hst ⊢
      refine ⟨hst.1, ?_⟩
      cases alt'
      · rfl
      · rw [hal rfl] at hst; exact absurd hst.2 (by decide)
    · rw [if_neg (by decide), if_pos rfl] at hst ⊢
      exact hst
    · exact absurd hst (by decide)
  rw [h1, h2, hd]
  rfl
theorem amT_L (alt : Bool) {pr : Int} {t : List UInt8} {n : Bool} {c e : Int} (hv : Fd.vld ⟨n, c, e⟩ = true) (h0 : -1 ≤ pr) (h9 : pr ≤ 9) (hT : TyR t) : ∃ A B T, amT alt pr t n c e = (A, B, T) ∧ AmL A B T := by
  obtain ⟨A, B, T, h, he⟩ := am_ex ⟨#[]⟩ 0 0 alt false 0 0 pr t n c e hv h0 h9 hT
  exact ⟨A, B, T, he, h.1⟩
theorem powL_free {u : UInt8} (hu : u ≠ 44) (pw : Int) : (44 : UInt8) ∉ powL u pw := by
  intro h
  unfold powL at h
  rcases List.mem_append.1 h with h | h
  · simp at h; exact hu h.symm
  · rcases List.mem_append.1 h with h | h
    · unfold sgn1 at h
      split at h <;> simp at h
    · have := pdL_dg _ _ h
      exact absurd this.1 (by decide)
theorem am_free (alt : Bool) (pr : Int) (t : List UInt8) (n : Bool) (c e : Int) : (44 : UInt8) ∉ (amT alt pr t n c e).2.2 := by
  unfold amT
  repeat' split
  all_goals first
    | exact powL_free (by decide) _
    | (simp; done)
    | (show (44 : UInt8) ∉ gnT n c e _
       unfold gnT
       split
       · exact powL_free (by decide) _
       · simp)
    | (show (44 : UInt8) ∉ gnU 69 n c e _
       unfold gnU
       split
       · exact powL_free (by decide) _
       · simp)
theorem frX_zero {f : ByteArray} {al si : Int} {alt ze : Bool} {gr pr : Int} {t : ByteArray} {n : Bool} {c e : Int} {A B T : List UInt8} (h : rOk f al si alt ze 0 gr pr t n c e = true) (ha : amT alt pr t.data.toList n c e = (A, B, T)) :
    frX (rOk f al si alt ze 0 gr pr t n c e) f al si alt ze 0 gr pr t n c e = frZ si alt gr n A B T := by
  rw [h]
  unfold frX
  rw [if_pos rfl, ha]
  exact fr_zero _ _ _ _ _ _ _ _ _
theorem frX_ok {f : ByteArray} {al si : Int} {alt ze : Bool} {wi gr pr : Int} {t : ByteArray} {n : Bool} {c e : Int} {A B T : List UInt8} (h : rOk f al si alt ze wi gr pr t n c e = true) (ha : amT alt pr t.data.toList n c e = (A, B, T)) :
    frX (rOk f al si alt ze wi gr pr t n c e) f al si alt ze wi gr pr t n c e = frL (fcB f ze) (alW al ze 1) si alt wi.toNat gr n A B T := by
  rw [h]
  unfold frX
  rw [if_pos rfl, ha]
theorem rOk_some {f : ByteArray} {al si : Int} {alt ze : Bool} {wi gr pr : Int} {t : ByteArray} {n : Bool} {c e : Int} (h : ¬ frX (rOk f al si alt ze wi gr pr t n c e) f al si alt ze wi gr pr t n c e = []) : rOk f al si alt ze wi gr pr t n c e = true := by
  rw [← Bool.not_eq_false]
  intro h2
  rw [h2] at h
  exact h rfl
/-- what promise 35 wants -/
structure Real0 (f : ByteArray) (al si : Int) (alt ze : Bool) (wi gr pr : Int) (t : ByteArray) (n : Bool) (c e : Int) (X Y : List UInt8) : Prop where
  fmt : frX (rOk f al si alt ze wi gr pr t n c e) f al si alt ze wi gr pr t n c e = X
  fmt0 : frX (rOk f al si alt ze 0 gr pr t n c e) f al si alt ze 0 gr pr t n c e = Y
  wide : wi ≤ X.length
  more : Y.length ≤ X.length
  same : wi ≤ Y.length → X = Y
  head : ∃ b r, Y = b :: r ∧ (n = false → b ≠ 45)
  lenX : X.length ≤ 600
theorem real0_of {f : ByteArray} {al si : Int} {alt ze : Bool} {wi gr pr : Int} {t : ByteArray} {n : Bool} {c e : Int} (h : rOk f al si alt ze wi gr pr t n c e = true) : ∃ X Y, Real0 f al si alt ze wi gr pr t n c e X Y := by
  obtain ⟨V, hst, hd⟩ := rOk_open h
  obtain ⟨A, B, T, ha, L⟩ := amT_L alt (t := t.data.toList) hd V.pr0 V.pr9 (tyR_of hst)
  have w0 := V.wi0; have w30 := V.wi30
  have h0 := rOk_other (f' := f) (al' := al) (si' := si) (gr' := gr) ze h ⟨V.al0, V.al4⟩ ⟨V.si0, V.si3⟩ ⟨V.gr0, V.gr2⟩ V.fill (fun x => x)
  have hw := fr_wide (fc := fcB f ze) (a := alW al ze 1) (si := si) (alt := alt) (wi := wi.toNat) (gr := gr) (n := n) (A := A) (B := B) (T := T) (by omega) L.la
  have hp := am_pos alt pr t.data.toList n c e
  rw [ha] at hp
  have hl := frZ_len (si := si) (alt := alt) (gr := gr) (n := n) L
  have hx := frL_le (fc := fcB f ze) (a := alW al ze 1) (si := si) (alt := alt) (wi := wi.toNat) (gr := gr) (n := n) (A := A) (B := B) (T := T) (by omega) L
  exact ⟨_, _, frX_ok h ha, frX_zero h0 ha, by omega, by omega, fun h => hw.2.2 (by omega), frZ_head hp L.da, by omega⟩
end Go.Proofs.YtejganoipbblcaaGreatDoor
