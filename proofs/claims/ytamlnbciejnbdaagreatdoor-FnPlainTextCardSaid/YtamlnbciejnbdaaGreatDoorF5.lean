import Derived.Test.YtamlnbciejnbdaaGreatDoorF4
import Derived.Test.YtamlnbciejnbdaaGreatDoorR2
namespace Go.Proofs.YtamlnbciejnbdaaGreatDoor
open Go Go.RowKit
/-- a new block of three zero cells, as a later world has it -/
def Z3 (w1 : World) (g : Nat) : Prop := w1.cell? ⟨g, 0, none⟩ = some (.bool false) ∧ w1.cell? ⟨g, 1, none⟩ = some (.int .i64 0) ∧ w1.cell? ⟨g, 2, none⟩ = some (.int .i64 0) ∧
  w1.frozen? ⟨g, 0, none⟩ = false ∧ w1.frozen? ⟨g, 1, none⟩ = false ∧ w1.frozen? ⟨g, 2, none⟩ = false ∧ g < w1.heap.size
theorem Z3.new (V : World) : Z3 (V.alloc (.cells #[.bool false, .int .i64 0, .int .i64 0] 24)) V.heap.size := by
  refine ⟨?_, ?_, ?_, ?_, ?_, ?_, ?_⟩ <;> simp [go_sem]
theorem Z3.up {V : World} {g : Nat} (h : Z3 V g) (x : Obj) : Z3 (V.alloc x) g := by
  obtain ⟨a, b, c, d, e, f, z⟩ := h
  have hb : Below V.heap.size V (V.alloc x) := (Below.refl _ _).alloc (Nat.le_refl _) _
  exact ⟨(hb.cell z).trans a, (hb.cell z).trans b, (hb.cell z).trans c, (hb.frozen z).trans d, (hb.frozen z).trans e, (hb.frozen z).trans f, by simp; omega⟩
theorem Z3.drew {V : World} {g : Nat} (h : Z3 V g) : Z3 V.drew g := h
theorem Z3.carry {V w1 : World} {g : Nat} (h : Z3 V g) (hb : Below V.heap.size V w1) : Z3 w1 g := by
  obtain ⟨a, b, c, d, e, f, z⟩ := h
  have hz := hb.size
  exact ⟨(hb.cell z).trans a, (hb.cell z).trans b, (hb.cell z).trans c, (hb.frozen z).trans d, (hb.frozen z).trans e, (hb.frozen z).trans f, by omega⟩
theorem Kp.dec {R : Nat} {V w1 : World} {x y z : Value} {t : TypeId} (hk : Kp R (V.alloc (.cells #[x, y, z] t)).heap.size (V.alloc (.cells #[x, y, z] t)) w1) (hn : V.heap.size ≠ R) :
    w1.cell? ⟨V.heap.size, 0, none⟩ = some x ∧ w1.cell? ⟨V.heap.size, 1, none⟩ = some y ∧ w1.cell? ⟨V.heap.size, 2, none⟩ = some z ∧
    w1.frozen? ⟨V.heap.size, 0, none⟩ = false ∧ w1.frozen? ⟨V.heap.size, 1, none⟩ = false ∧ w1.frozen? ⟨V.heap.size, 2, none⟩ = false ∧ V.heap.size < w1.heap.size := by
  have hz := hk.size
  simp at hz
  exact ⟨(hk.cell (by simp) hn).trans (by simp [go_sem]), (hk.cell (by simp) hn).trans (by simp [go_sem]), (hk.cell (by simp) hn).trans (by simp [go_sem]),
    (hk.frozen (by simp) hn).trans (by simp [go_sem]), (hk.frozen (by simp) hn).trans (by simp [go_sem]), (hk.frozen (by simp) hn).trans (by simp [go_sem]), by omega⟩

theorem Z3.kp {R g : Nat} {V w1 : World} (h : Z3 V g) (hk : Kp R V.heap.size V w1) (hn : g ≠ R) : Z3 w1 g := by
  obtain ⟨a, b, c, d, e, f, z⟩ := h
  have hz := hk.size
  exact ⟨(hk.cell z hn).trans a, (hk.cell z hn).trans b, (hk.cell z hn).trans c, (hk.frozen z hn).trans d, (hk.frozen z hn).trans e, (hk.frozen z hn).trans f, by omega⟩

/-- some decimal -/
def IsDec (r : Ending) : Prop := ∃ n c e, r = .returned (.agg #[.bool n, .int .i64 c, .int .i64 e])
theorem IsDec.mk (n : Bool) (c e : Int) : IsDec (.returned (.agg #[.bool n, .int .i64 c, .int .i64 e])) := ⟨n, c, e, rfl⟩

set_option maxHeartbeats 1000000 in
theorem goodDec_any (R : Nat) (K : Int) (w : World) (h : Rd R K w) (hK : K ≤ 900) :
    Calls Tryz.prog 86 #[.pointer (some ⟨R, 0, none⟩)] w fun r w' => IsDec r ∧ Rd R (K + 10) w' ∧ Kp R w.heap.size w w' := by
  have hR := h.1
  have hr := h
  have zA := Z3.new w
  have hgR : w.heap.size ≠ R := by omega
  go_enter Tryz.func86, Tryz.ntmps86
  go_wp2_with (first
    | (go_at_call 70; (first | with_reducible refine Calls.mono (pick_any R _ _ _ hr ?_) ?_ | with_reducible refine Calls.mono (pick_any R _ _ _ (hr.up _) ?_) ?_ | with_reducible refine Calls.mono (pick_any R _ _ _ ((hr.up _).up _) ?_) ?_ | with_reducible refine Calls.mono (pick_any R _ _ _ ((((hr.up _).set (by omega) _).set (by omega) _).set (by omega) _) ?_) ?_ | with_reducible refine Calls.mono (pick_any R _ _ _ (((((hr.up _).set (by omega) _).set (by omega) _).set (by omega) _).up _) ?_) ?_ | with_reducible refine Calls.mono (pick_any R _ _ _ (hr.set (by omega) _) ?_) ?_ | with_reducible refine Calls.mono (pick_any R _ _ _ ((hr.set (by omega) _).up _) ?_) ?_); omega; rintro r w1 ⟨⟨x, rfl, hx0, hx1⟩, hr, hk⟩; have hR1 := hr.1; have hne := Nat.ne_of_gt hr.1; have hz := hk.size; (try simp at hz); (try obtain ⟨q0, q1, q2, z0, z1, z2, qz⟩ := Kp.dec hk (by omega)); (try (have zN := Z3.kp (by first | with_reducible exact zA | with_reducible exact zA.up _ | with_reducible exact (zA.up _).up _) hk hgR; clear zA; have zA := zN; clear zN; have zC := zA; obtain ⟨y0, y1, y2, y3, y4, y5, y6⟩ := zC; have hnw := Nat.ne_of_lt y6; have hnw2 := Nat.ne_of_gt y6)))
    | (go_at_call 40; (first | with_reducible refine Calls.mono (one_any R _ _ _ _ _ hr ?_ ?_ ?_ ?_) ?_ | with_reducible refine Calls.mono (one_any R _ _ _ _ _ (hr.up _) ?_ ?_ ?_ ?_) ?_ | with_reducible refine Calls.mono (one_any R _ _ _ _ _ ((hr.up _).up _) ?_ ?_ ?_ ?_) ?_ | with_reducible refine Calls.mono (one_any R _ _ _ _ _ ((((hr.up _).set (by omega) _).set (by omega) _).set (by omega) _) ?_ ?_ ?_ ?_) ?_ | with_reducible refine Calls.mono (one_any R _ _ _ _ _ (((((hr.up _).set (by omega) _).set (by omega) _).set (by omega) _).up _) ?_ ?_ ?_ ?_) ?_ | with_reducible refine Calls.mono (one_any R _ _ _ _ _ (hr.set (by omega) _) ?_ ?_ ?_ ?_) ?_ | with_reducible refine Calls.mono (one_any R _ _ _ _ _ ((hr.set (by omega) _).up _) ?_ ?_ ?_ ?_) ?_); omega; omega; exact Nums.new _ _ _ 12 (by simp) rfl; omega; rintro r w1 ⟨⟨ya, rfl⟩, hr, hk⟩; have hR1 := hr.1; have hne := Nat.ne_of_gt hr.1; have hz := hk.size; (try simp at hz); (try obtain ⟨q0, q1, q2, z0, z1, z2, qz⟩ := Kp.dec hk (by omega)); (try (have zN := Z3.kp (by first | with_reducible exact zA | with_reducible exact zA.up _ | with_reducible exact (zA.up _).up _) hk hgR; clear zA; have zA := zN; clear zN; have zC := zA; obtain ⟨y0, y1, y2, y3, y4, y5, y6⟩ := zC; have hnw := Nat.ne_of_lt y6; have hnw2 := Nat.ne_of_gt y6)))
    | (go_at_call 40; (first | with_reducible refine Calls.mono (one_any R _ _ _ _ _ hr ?_ ?_ ?_ ?_) ?_ | with_reducible refine Calls.mono (one_any R _ _ _ _ _ (hr.up _) ?_ ?_ ?_ ?_) ?_ | with_reducible refine Calls.mono (one_any R _ _ _ _ _ ((hr.up _).up _) ?_ ?_ ?_ ?_) ?_ | with_reducible refine Calls.mono (one_any R _ _ _ _ _ ((((hr.up _).set (by omega) _).set (by omega) _).set (by omega) _) ?_ ?_ ?_ ?_) ?_ | with_reducible refine Calls.mono (one_any R _ _ _ _ _ (((((hr.up _).set (by omega) _).set (by omega) _).set (by omega) _).up _) ?_ ?_ ?_ ?_) ?_ | with_reducible refine Calls.mono (one_any R _ _ _ _ _ (hr.set (by omega) _) ?_ ?_ ?_ ?_) ?_ | with_reducible refine Calls.mono (one_any R _ _ _ _ _ ((hr.set (by omega) _).up _) ?_ ?_ ?_ ?_) ?_); omega; omega; exact Nums.new _ _ _ 13 (by simp) rfl; omega; rintro r w1 ⟨⟨yb, rfl⟩, hr, hk⟩; have hR1 := hr.1; have hne := Nat.ne_of_gt hr.1; have hz := hk.size; (try simp at hz); (try obtain ⟨q0, q1, q2, z0, z1, z2, qz⟩ := Kp.dec hk (by omega)); (try (have zN := Z3.kp (by first | with_reducible exact zA | with_reducible exact zA.up _ | with_reducible exact (zA.up _).up _) hk hgR; clear zA; have zA := zN; clear zN; have zC := zA; obtain ⟨y0, y1, y2, y3, y4, y5, y6⟩ := zC; have hnw := Nat.ne_of_lt y6; have hnw2 := Nat.ne_of_gt y6))))
  · have hrm := hr.mono (show _ ≤ K + 10 by omega)
    exact bodyPost_ret (v := .agg #[.bool (x == 0), .int .i64 ya, .int .i64 yb]) (by simp [results, Tryz.results86, go_sem, *]) rfl ⟨IsDec.mk _ _ _, (by repeat (first | with_reducible assumption | with_reducible refine Rd.up ?_ _ | with_reducible refine Rd.drew ?_ | with_reducible refine Rd.set ?_ (by first | omega | (simp; done) | (simp <;> omega)) _)), (by repeat (first | with_reducible assumption | with_reducible exact Kp.refl _ _ _ | with_reducible refine Kp.up ?_ (by first | omega | (simp; done) | (simp <;> omega)) _ | with_reducible refine Kp.set ?_ (by first | omega | (simp; done) | (simp <;> omega)) _ _ | with_reducible refine Kp.drew ?_ | with_reducible refine Kp.step ?_ (by with_reducible assumption)))⟩
  · have hrm := hr.mono (show _ ≤ K + 10 by omega)
    exact bodyPost_ret (v := .agg #[.bool false, .int .i64 ya, .int .i64 yb]) (by simp [results, Tryz.results86, go_sem, *]) rfl ⟨IsDec.mk _ _ _, (by repeat (first | with_reducible assumption | with_reducible refine Rd.up ?_ _ | with_reducible refine Rd.drew ?_ | with_reducible refine Rd.set ?_ (by first | omega | (simp; done) | (simp <;> omega)) _)), (by repeat (first | with_reducible assumption | with_reducible exact Kp.refl _ _ _ | with_reducible refine Kp.up ?_ (by first | omega | (simp; done) | (simp <;> omega)) _ | with_reducible refine Kp.set ?_ (by first | omega | (simp; done) | (simp <;> omega)) _ _ | with_reducible refine Kp.drew ?_ | with_reducible refine Kp.step ?_ (by with_reducible assumption)))⟩

theorem C3.dec {R : Nat} {V w1 : World} {x y z : Value} {t : TypeId} (hk : Kp R (V.alloc (.cells #[x, y, z] t)).heap.size (V.alloc (.cells #[x, y, z] t)) w1) (hn : V.heap.size ≠ R) : C3 w1 V.heap.size x y z := Kp.dec hk hn
theorem C3.kp {R g : Nat} {V w1 : World} {x y z : Value} (h : C3 V g x y z) (hk : Kp R V.heap.size V w1) (hn : g ≠ R) : C3 w1 g x y z := by
  obtain ⟨a, b, c, d, e, f, u⟩ := h
  have hz := hk.size
  exact ⟨(hk.cell u hn).trans a, (hk.cell u hn).trans b, (hk.cell u hn).trans c, (hk.frozen u hn).trans d, (hk.frozen u hn).trans e, (hk.frozen u hn).trans f, by omega⟩

set_option maxHeartbeats 2000000 in
theorem someDec_any (R : Nat) (K : Int) (w : World) (h : Rd R K w) (hK : K ≤ 800) :
    Calls Tryz.prog 39 #[.pointer (some ⟨R, 0, none⟩)] w fun r w' => IsDec r ∧ Rd R (K + 20) w' ∧ Kp R w.heap.size w w' := by
  have hR := h.1
  have hr := h
  have zA := Z3.new w
  have hgR : w.heap.size ≠ R := by omega
  go_enter Tryz.func39, Tryz.ntmps39
  go_wp2_with (first
    | (go_at_call 86; refine Calls.mono (goodDec_any R _ _ (hr.up _) ?_) ?_; omega; rintro r w1 ⟨⟨n, c, e, rfl⟩, hr, hk⟩; have hR1 := hr.1; have hne := Nat.ne_of_gt hr.1; have hz := hk.size; (try simp at hz); (try obtain ⟨q0, q1, q2, z0, z1, z2, qz⟩ := Kp.dec hk (by omega)); (try (have zN := Z3.kp (by first | with_reducible exact zA | with_reducible exact zA.up _ | with_reducible exact (zA.up _).up _) hk hgR; clear zA; have zA := zN; clear zN; have zC := zA; obtain ⟨y0, y1, y2, y3, y4, y5, y6⟩ := zC; have hnw := Nat.ne_of_lt y6; have hnw2 := Nat.ne_of_gt y6)))
    | (go_at_call 70; (first | with_reducible refine Calls.mono (pick_any R _ _ _ hr ?_) ?_ | with_reducible refine Calls.mono (pick_any R _ _ _ (hr.up _) ?_) ?_ | with_reducible refine Calls.mono (pick_any R _ _ _ ((hr.up _).up _) ?_) ?_ | with_reducible refine Calls.mono (pick_any R _ _ _ ((((hr.up _).set (by omega) _).set (by omega) _).set (by omega) _) ?_) ?_ | with_reducible refine Calls.mono (pick_any R _ _ _ (((((hr.up _).set (by omega) _).set (by omega) _).set (by omega) _).up _) ?_) ?_ | with_reducible refine Calls.mono (pick_any R _ _ _ (hr.set (by omega) _) ?_) ?_ | with_reducible refine Calls.mono (pick_any R _ _ _ ((hr.set (by omega) _).up _) ?_) ?_); omega; rintro r w1 ⟨⟨x, rfl, hx0, hx1⟩, hr, hk⟩; have hR1 := hr.1; have hne := Nat.ne_of_gt hr.1; have hz := hk.size; (try simp at hz); (try (have zN := Z3.kp (by first | with_reducible exact zA | with_reducible exact zA.up _ | with_reducible exact (zA.up _).up _) hk hgR; clear zA; have zA := zN; clear zN; have zC := zA; obtain ⟨y0, y1, y2, y3, y4, y5, y6⟩ := zC; have hnw := Nat.ne_of_lt y6; have hnw2 := Nat.ne_of_gt y6)); have zB := C3.dec hk (by omega); have zD := zB; obtain ⟨b0, b1, b2, b3, b4, b5, b6⟩ := zD)
    | (go_at_call 40; (first | with_reducible refine Calls.mono (one_any R _ _ _ _ _ hr ?_ ?_ ?_ ?_) ?_ | with_reducible refine Calls.mono (one_any R _ _ _ _ _ (hr.up _) ?_ ?_ ?_ ?_) ?_ | with_reducible refine Calls.mono (one_any R _ _ _ _ _ ((hr.up _).up _) ?_ ?_ ?_ ?_) ?_ | with_reducible refine Calls.mono (one_any R _ _ _ _ _ ((((hr.up _).set (by omega) _).set (by omega) _).set (by omega) _) ?_ ?_ ?_ ?_) ?_ | with_reducible refine Calls.mono (one_any R _ _ _ _ _ (((((hr.up _).set (by omega) _).set (by omega) _).set (by omega) _).up _) ?_ ?_ ?_ ?_) ?_ | with_reducible refine Calls.mono (one_any R _ _ _ _ _ (hr.set (by omega) _) ?_ ?_ ?_ ?_) ?_ | with_reducible refine Calls.mono (one_any R _ _ _ _ _ ((hr.set (by omega) _).up _) ?_ ?_ ?_ ?_) ?_); omega; omega; exact Nums.new _ _ _ 2 (by simp) rfl; omega; rintro r w1 ⟨⟨y, rfl⟩, hr, hk⟩; have hR1 := hr.1; have hne := Nat.ne_of_gt hr.1; have hz := hk.size; (try simp at hz); (try (have zN := Z3.kp (by first | with_reducible exact zA | with_reducible exact zA.up _ | with_reducible exact (zA.up _).up _) hk hgR; clear zA; have zA := zN; clear zN; have zC := zA; obtain ⟨y0, y1, y2, y3, y4, y5, y6⟩ := zC; have hnw := Nat.ne_of_lt y6; have hnw2 := Nat.ne_of_gt y6)); have zM := C3.kp (zB.up _) hk (by omega); obtain ⟨c0, c1, c2, c3, c4, c5, c6⟩ := zM))
  · have hrm := hr.mono (show _ ≤ K + 20 by omega)
    exact bodyPost_ret (v := .agg #[.bool n, .int .i64 y, .int .i64 e]) (by simp [results, Tryz.results39, go_sem, *]) rfl ⟨IsDec.mk _ _ _, (by repeat (first | with_reducible assumption | with_reducible refine Rd.up ?_ _ | with_reducible refine Rd.drew ?_ | with_reducible refine Rd.set ?_ (by first | omega | (simp; done) | (simp <;> omega)) _)), (by repeat (first | with_reducible assumption | with_reducible exact Kp.refl _ _ _ | with_reducible refine Kp.up ?_ (by first | omega | (simp; done) | (simp <;> omega)) _ | with_reducible refine Kp.set ?_ (by first | omega | (simp; done) | (simp <;> omega)) _ _ | with_reducible refine Kp.drew ?_ | with_reducible refine Kp.step ?_ (by with_reducible assumption)))⟩
  · have hrm := hr.mono (show _ ≤ K + 20 by omega)
    exact bodyPost_ret (v := .agg #[.bool n, .int .i64 c, .int .i64 y]) (by simp [results, Tryz.results39, go_sem, *]) rfl ⟨IsDec.mk _ _ _, (by repeat (first | with_reducible assumption | with_reducible refine Rd.up ?_ _ | with_reducible refine Rd.drew ?_ | with_reducible refine Rd.set ?_ (by first | omega | (simp; done) | (simp <;> omega)) _)), (by repeat (first | with_reducible assumption | with_reducible exact Kp.refl _ _ _ | with_reducible refine Kp.up ?_ (by first | omega | (simp; done) | (simp <;> omega)) _ | with_reducible refine Kp.set ?_ (by first | omega | (simp; done) | (simp <;> omega)) _ _ | with_reducible refine Kp.drew ?_ | with_reducible refine Kp.step ?_ (by with_reducible assumption)))⟩
  · have hrm := hr.mono (show _ ≤ K + 20 by omega)
    exact bodyPost_ret (v := .agg #[.bool (!n), .int .i64 c, .int .i64 e]) (by simp [results, Tryz.results39, go_sem, *]) rfl ⟨IsDec.mk _ _ _, (by repeat (first | with_reducible assumption | with_reducible refine Rd.up ?_ _ | with_reducible refine Rd.drew ?_ | with_reducible refine Rd.set ?_ (by first | omega | (simp; done) | (simp <;> omega)) _)), (by repeat (first | with_reducible assumption | with_reducible exact Kp.refl _ _ _ | with_reducible refine Kp.up ?_ (by first | omega | (simp; done) | (simp <;> omega)) _ | with_reducible refine Kp.set ?_ (by first | omega | (simp; done) | (simp <;> omega)) _ _ | with_reducible refine Kp.drew ?_ | with_reducible refine Kp.step ?_ (by with_reducible assumption)))⟩
  · have hrm := hr.mono (show _ ≤ K + 20 by omega)
    exact bodyPost_ret (v := .agg #[.bool n, .int .i64 c, .int .i64 e]) (by simp [results, Tryz.results39, go_sem, *]) rfl ⟨IsDec.mk _ _ _, (by repeat (first | with_reducible assumption | with_reducible refine Rd.up ?_ _ | with_reducible refine Rd.drew ?_ | with_reducible refine Rd.set ?_ (by first | omega | (simp; done) | (simp <;> omega)) _)), (by repeat (first | with_reducible assumption | with_reducible exact Kp.refl _ _ _ | with_reducible refine Kp.up ?_ (by first | omega | (simp; done) | (simp <;> omega)) _ | with_reducible refine Kp.set ?_ (by first | omega | (simp; done) | (simp <;> omega)) _ _ | with_reducible refine Kp.drew ?_ | with_reducible refine Kp.step ?_ (by with_reducible assumption)))⟩
/-- some decimal and a number -/
def IsDecI (r : Ending) : Prop := ∃ n c e k, r = .returned (.tuple #[.agg #[.bool n, .int .i64 c, .int .i64 e], .int .i64 k])
theorem IsDecI.mk (n : Bool) (c e k : Int) : IsDecI (.returned (.tuple #[.agg #[.bool n, .int .i64 c, .int .i64 e], .int .i64 k])) := ⟨n, c, e, k, rfl⟩
set_option maxHeartbeats 1000000 in
theorem DrawPlainText_any (s : Option Addr) (len cap : Nat) (w : World) (h : CodeAt s len w.heap.size w) (hcap : len ≤ cap) :
    Calls Tryz.prog 24 #[.slice s len cap] w fun r w' => IsDec r ∧ Below w.heap.size w w' := by
  have zA0 := C3.new w (.bool false) (.int .i64 0) (.int .i64 0) 24
  have hB0 : Below w.heap.size w (w.alloc (.cells #[.bool false, .int .i64 0, .int .i64 0] 24)) := (Below.refl _ _).alloc (Nat.le_refl _) _
  go_enter Tryz.func24, Tryz.ntmps24
  go_wp2_with (first
    | (go_at_call 38; (with_reducible refine Calls.mono (newReader_any _ _ _ _ (h.up _) hcap) ?_); rintro r wa ⟨R, rfl, hR, hr, hb⟩; (try simp at hR); have zA := zA0.carry hb; have hBa := hB0.trans (hb.mono hB0.size); have hra := hr.1)
    | (go_at_call 39; (with_reducible refine Calls.mono (someDec_any R _ _ hr ?_) ?_); omega; rintro r wb ⟨⟨n, c, e, rfl⟩, hr2, hk⟩; have zB := zA.kp hk (by omega); (obtain ⟨a0, a1, a2, a3, a4, a5, a6⟩ := zB); have hB := below_kp hBa hk (by omega) (by omega)))
  exact bodyPost_ret (v := .agg #[.bool n, .int .i64 c, .int .i64 e]) (by simp [results, Tryz.results24, go_sem, *]) rfl ⟨IsDec.mk _ _ _, (by repeat (first | with_reducible exact Below.refl _ _ | with_reducible assumption | with_reducible refine Below.setCell ?_ (by first | omega | (simp; done) | (simp <;> omega)) _ | with_reducible refine below_drewN ?_ _ | with_reducible refine Below.drew ?_ | with_reducible refine Below.alloc ?_ (by first | omega | (simp; done) | (simp <;> omega)) _))⟩

set_option maxHeartbeats 1000000 in
theorem DrawFixedText_any (s : Option Addr) (len cap : Nat) (w : World) (h : CodeAt s len w.heap.size w) (hcap : len ≤ cap) :
    Calls Tryz.prog 10 #[.slice s len cap] w fun r w' => IsDecI r ∧ Below w.heap.size w w' := by
  have zA0 := C3.new w (.bool false) (.int .i64 0) (.int .i64 0) 24
  have hB0 : Below w.heap.size w (w.alloc (.cells #[.bool false, .int .i64 0, .int .i64 0] 24)) := (Below.refl _ _).alloc (Nat.le_refl _) _
  go_enter Tryz.func10, Tryz.ntmps10
  go_wp2_with (first
    | (go_at_call 38; (with_reducible refine Calls.mono (newReader_any _ _ _ _ (h.up _) hcap) ?_); rintro r wa ⟨R, rfl, hR, hr, hb⟩; (try simp at hR); have zA := zA0.carry hb; have hBa := hB0.trans (hb.mono hB0.size); have hra := hr.1)
    | (go_at_call 39; (with_reducible refine Calls.mono (someDec_any R _ _ hr ?_) ?_); omega; rintro r wb ⟨⟨n, c, e, rfl⟩, hr2, hk⟩; have zB := zA.kp hk (by omega); (obtain ⟨a0, a1, a2, a3, a4, a5, a6⟩ := zB); have hB := below_kp hBa hk (by omega) (by omega); have hrb := hr2.1; have hzb := hk.size)
    | (go_at_call 40; (with_reducible refine Calls.mono (one_any R _ _ _ _ _ (hr2.up _) ?_ ?_ ?_ ?_) ?_); omega; omega; exact Nums.new _ _ _ 7 (by simp) rfl; omega; rintro r wc ⟨⟨k, rfl⟩, hr3, hk3⟩; have zE := ((zA.kp hk (by omega)).up _).kp hk3 (by omega); (obtain ⟨e0, e1, e2, e3, e4, e5, e6⟩ := zE); have hB2 := below_kp (hB.alloc (by omega) _) hk3 (by omega) (by simp; omega)))
  exact bodyPost_ret (v := .tuple #[.agg #[.bool n, .int .i64 c, .int .i64 e], .int .i64 k]) (by simp [results, Tryz.results10, go_sem, *]) rfl ⟨IsDecI.mk _ _ _ _, (by repeat (first | with_reducible exact Below.refl _ _ | with_reducible assumption | with_reducible refine Below.setCell ?_ (by first | omega | (simp; done) | (simp <;> omega)) _ | with_reducible refine below_drewN ?_ _ | with_reducible refine Below.drew ?_ | with_reducible refine Below.alloc ?_ (by first | omega | (simp; done) | (simp <;> omega)) _))⟩

end Go.Proofs.YtamlnbciejnbdaaGreatDoor
