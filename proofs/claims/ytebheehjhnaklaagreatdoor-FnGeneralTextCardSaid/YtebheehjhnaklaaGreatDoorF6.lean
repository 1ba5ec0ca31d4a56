import Derived.Test.YtebheehjhnaklaaGreatDoorE7
import Derived.Test.YtebheehjhnaklaaGreatDoorR4
import Derived.Test.YtebheehjhnaklaaGreatDoorN3
import Derived.Test.YtebheehjhnaklaaGreatDoorN8
import Derived.Test.YtebheehjhnaklaaGreatDoorS6
namespace Go.Proofs.YtebheehjhnaklaaGreatDoor
open Go Go.RowKit
/-- a new block of three zero cells, as a later world has it -/
def Z3 (w1 : World) (g : Nat) : Prop := w1.cell? ⟨g, 0, none⟩ = some (.bool false) ∧ w1.cell? ⟨g, 1, none⟩ = some (.int .i64 0) ∧ w1.cell? ⟨g, 2, none⟩ = some (.int .i64 0) ∧
  w1.frozen? ⟨g, 0, none⟩ = false ∧ w1.frozen? ⟨g, 1, none⟩ = false ∧ w1.frozen? ⟨g, 2, none⟩ = false ∧ g < w1.heap.size
theorem Z3.new (V : World) : Z3 (V.alloc (.cells #[.bool false, .int .i64 0, .int .i64 0] 24)) V.heap.size := by
  refine ⟨?_, ?_, ?_, ?_, ?_, ?_, ?_⟩ <;> simp [go_sem]
theorem Z3.up {V : World} {g : Nat} (h : Z3 V g) (x : Obj) : Z3 (V.alloc x) g := by
  obtain ⟨a, b, c, d, e, f, z⟩ := h
  have hb : Below V.heap.size V (V.alloc x) := (Below.refl _ _).alloc (Nat.le_refl _) _
  exact ⟨(hb.cell z).trans a, (hb.cell z).trans b, (hb.cell z).trans c, (hb.frozen z).trans d, (hb.frozen z).trans e, (hb.frozen z).trans f, by simp; omega⟩
theorem Z3.drew {V : World} {g : Nat} (h : Z3 V g) : Z3 V.drew g := h
theorem Z3.carry {V w1 : World} {g : Nat} (h : Z3 V g) (hb : Below V.heap.size V w1) : Z3 w1 g := by
  obtain ⟨a, b, c, d, e, f, z⟩ := h
  have hz := hb.size
  exact ⟨(hb.cell z).trans a, (hb.cell z).trans b, (hb.cell z).trans c, (hb.frozen z).trans d, (hb.frozen z).trans e, (hb.frozen z).trans f, by omega⟩
theorem Kp.dec {R : Nat} {V w1 : World} {x y z : Value} {t : TypeId} (hk : Kp R (V.alloc (.cells #[x, y, z] t)).heap.size (V.alloc (.cells #[x, y, z] t)) w1) (hn : V.heap.size ≠ R) :
    w1.cell? ⟨V.heap.size, 0, none⟩ = some x ∧ w1.cell? ⟨V.heap.size, 1, none⟩ = some y ∧ w1.cell? ⟨V.heap.size, 2, none⟩ = some z ∧
    w1.frozen? ⟨V.heap.size, 0, none⟩ = false ∧ w1.frozen? ⟨V.heap.size, 1, none⟩ = false ∧ w1.frozen? ⟨V.heap.size, 2, none⟩ = false ∧ V.heap.size < w1.heap.size := by
  have hz := hk.size
  simp at hz
  exact ⟨(hk.cell (by simp) hn).trans (by simp [go_sem]), (hk.cell (by simp) hn).trans (by simp [go_sem]), (hk.cell (by simp) hn).trans (by simp [go_sem]),
    (hk.frozen (by simp) hn).trans (by simp [go_sem]), (hk.frozen (by simp) hn).trans (by simp [go_sem]), (hk.frozen (by simp) hn).trans (by simp [go_sem]), by omega⟩

theorem Z3.kp {R g : Nat} {V w1 : World} (h : Z3 V g) (hk : Kp R V.heap.size V w1) (hn : g ≠ R) : Z3 w1 g := by
  obtain ⟨a, b, c, d, e, f, z⟩ := h
  have hz := hk.size
  exact ⟨(hk.cell z hn).trans a, (hk.cell z hn).trans b, (hk.cell z hn).trans c, (hk.frozen z hn).trans d, (hk.frozen z hn).trans e, (hk.frozen z hn).trans f, by omega⟩

/-- some decimal -/
def IsDec (r : Ending) : Prop := ∃ n c e, r = .returned (.agg #[.bool n, .int .i64 c, .int .i64 e])
theorem IsDec.mk (n : Bool) (c e : Int) : IsDec (.returned (.agg #[.bool n, .int .i64 c, .int .i64 e])) := ⟨n, c, e, rfl⟩

set_option maxHeartbeats 1000000 in
theorem goodDec_any (R : Nat) (K : Int) (w : World) (h : Rd R K w) (hK : K ≤ 900) :
    Calls Tryz.prog 69 #[.pointer (some ⟨R, 0, none⟩)] w fun r w' => IsDec r ∧ Rd R (K + 10) w' ∧ Kp R w.heap.size w w' := by
  have hR := h.1
  have hr := h
  have zA := Z3.new w
  have hgR : w.heap.size ≠ R := by omega
  go_enter Tryz.func69, Tryz.ntmps69
  go_wp2_with (first
    | (go_at_call 70; (first | with_reducible refine Calls.mono (pick_any R _ _ _ hr ?_) ?_ | with_reducible refine Calls.mono (pick_any R _ _ _ (hr.up _) ?_) ?_ | with_reducible refine Calls.mono (pick_any R _ _ _ ((hr.up _).up _) ?_) ?_ | with_reducible refine Calls.mono (pick_any R _ _ _ ((((hr.up _).set (by omega) _).set (by omega) _).set (by omega) _) ?_) ?_ | with_reducible refine Calls.mono (pick_any R _ _ _ (((((hr.up _).set (by omega) _).set (by omega) _).set (by omega) _).up _) ?_) ?_ | with_reducible refine Calls.mono (pick_any R _ _ _ (hr.set (by omega) _) ?_) ?_ | with_reducible refine Calls.mono (pick_any R _ _ _ ((hr.set (by omega) _).up _) ?_) ?_); omega; rintro r w1 ⟨⟨x, rfl, hx0, hx1⟩, hr, hk⟩; have hR1 := hr.1; have hne := Nat.ne_of_gt hr.1; have hz := hk.size; (try simp at hz); (try obtain ⟨q0, q1, q2, z0, z1, z2, qz⟩ := Kp.dec hk (by omega)); (try (have zN := Z3.kp (by first | with_reducible exact zA | with_reducible exact zA.up _ | with_reducible exact (zA.up _).up _) hk hgR; clear zA; have zA := zN; clear zN; have zC := zA; obtain ⟨y0, y1, y2, y3, y4, y5, y6⟩ := zC; have hnw := Nat.ne_of_lt y6; have hnw2 := Nat.ne_of_gt y6)))
    | (go_at_call 42; (first | with_reducible refine Calls.mono (one_any R _ _ _ _ _ hr ?_ ?_ ?_ ?_) ?_ | with_reducible refine Calls.mono (one_any R _ _ _ _ _ (hr.up _) ?_ ?_ ?_ ?_) ?_ | with_reducible refine Calls.mono (one_any R _ _ _ _ _ ((hr.up _).up _) ?_ ?_ ?_ ?_) ?_ | with_reducible refine Calls.mono (one_any R _ _ _ _ _ ((((hr.up _).set (by omega) _).set (by omega) _).set (by omega) _) ?_ ?_ ?_ ?_) ?_ | with_reducible refine Calls.mono (one_any R _ _ _ _ _ (((((hr.up _).set (by omega) _).set (by omega) _).set (by omega) _).up _) ?_ ?_ ?_ ?_) ?_ | with_reducible refine Calls.mono (one_any R _ _ _ _ _ (hr.set (by omega) _) ?_ ?_ ?_ ?_) ?_ | with_reducible refine Calls.mono (one_any R _ _ _ _ _ ((hr.set (by omega) _).up _) ?_ ?_ ?_ ?_) ?_); omega; omega; exact Nums.new _ _ _ 12 (by simp) rfl; omega; rintro r w1 ⟨⟨ya, rfl⟩, hr, hk⟩; have hR1 := hr.1; have hne := Nat.ne_of_gt hr.1; have hz := hk.size; (try simp at hz); (try obtain ⟨q0, q1, q2, z0, z1, z2, qz⟩ := Kp.dec hk (by omega)); (try (have zN := Z3.kp (by first | with_reducible exact zA | with_reducible exact zA.up _ | with_reducible exact (zA.up _).up _) hk hgR; clear zA; have zA := zN; clear zN; have zC := zA; obtain ⟨y0, y1, y2, y3, y4, y5, y6⟩ := zC; have hnw := Nat.ne_of_lt y6; have hnw2 := Nat.ne_of_gt y6)))
    | (go_at_call 42; (first | with_reducible refine Calls.mono (one_any R _ _ _ _ _ hr ?_ ?_ ?_ ?_) ?_ | with_reducible refine Calls.mono (one_any R _ _ _ _ _ (hr.up _) ?_ ?_ ?_ ?_) ?_ | with_reducible refine Calls.mono (one_any R _ _ _ _ _ ((hr.up _).up _) ?_ ?_ ?_ ?_) ?_ | with_reducible refine Calls.mono (one_any R _ _ _ _ _ ((((hr.up _).set (by omega) _).set (by omega) _).set (by omega) _) ?_ ?_ ?_ ?_) ?_ | with_reducible refine Calls.mono (one_any R _ _ _ _ _ (((((hr.up _).set (by omega) _).set (by omega) _).set (by omega) _).up _) ?_ ?_ ?_ ?_) ?_ | with_reducible refine Calls.mono (one_any R _ _ _ _ _ (hr.set (by omega) _) ?_ ?_ ?_ ?_) ?_ | with_reducible refine Calls.mono (one_any R _ _ _ _ _ ((hr.set (by omega) _).up _) ?_ ?_ ?_ ?_) ?_); omega; omega; exact Nums.new _ _ _ 13 (by simp) rfl; omega; rintro r w1 ⟨⟨yb, rfl⟩, hr, hk⟩; have hR1 := hr.1; have hne := Nat.ne_of_gt hr.1; have hz := hk.size; (try simp at hz); (try obtain ⟨q0, q1, q2, z0, z1, z2, qz⟩ := Kp.dec hk (by omega)); (try (have zN := Z3.kp (by first | with_reducible exact zA | with_reducible exact zA.up _ | with_reducible exact (zA.up _).up _) hk hgR; clear zA; have zA := zN; clear zN; have zC := zA; obtain ⟨y0, y1, y2, y3, y4, y5, y6⟩ := zC; have hnw := Nat.ne_of_lt y6; have hnw2 := Nat.ne_of_gt y6))))
  · have hrm := hr.mono (show _ ≤ K + 10 by omega)
    exact bodyPost_ret (v := .agg #[.bool (x == 0), .int .i64 ya, .int .i64 yb]) (by simp [results, Tryz.results69, go_sem, *]) rfl ⟨IsDec.mk _ _ _, (by repeat (first | with_reducible assumption | with_reducible refine Rd.up ?_ _ | with_reducible refine Rd.drew ?_ | with_reducible refine Rd.set ?_ (by first | omega | (simp; done) | (simp <;> omega)) _)), (by repeat (first | with_reducible assumption | with_reducible exact Kp.refl _ _ _ | with_reducible refine Kp.up ?_ (by first | omega | (simp; done) | (simp <;> omega)) _ | with_reducible refine Kp.set ?_ (by first | omega | (simp; done) | (simp <;> omega)) _ _ | with_reducible refine Kp.drew ?_ | with_reducible refine Kp.step ?_ (by with_reducible assumption)))⟩
  · have hrm := hr.mono (show _ ≤ K + 10 by omega)
    exact bodyPost_ret (v := .agg #[.bool false, .int .i64 ya, .int .i64 yb]) (by simp [results, Tryz.results69, go_sem, *]) rfl ⟨IsDec.mk _ _ _, (by repeat (first | with_reducible assumption | with_reducible refine Rd.up ?_ _ | with_reducible refine Rd.drew ?_ | with_reducible refine Rd.set ?_ (by first | omega | (simp; done) | (simp <;> omega)) _)), (by repeat (first | with_reducible assumption | with_reducible exact Kp.refl _ _ _ | with_reducible refine Kp.up ?_ (by first | omega | (simp; done) | (simp <;> omega)) _ | with_reducible refine Kp.set ?_ (by first | omega | (simp; done) | (simp <;> omega)) _ _ | with_reducible refine Kp.drew ?_ | with_reducible refine Kp.step ?_ (by with_reducible assumption)))⟩

theorem C3.dec {R : Nat} {V w1 : World} {x y z : Value} {t : TypeId} (hk : Kp R (V.alloc (.cells #[x, y, z] t)).heap.size (V.alloc (.cells #[x, y, z] t)) w1) (hn : V.heap.size ≠ R) : C3 w1 V.heap.size x y z := Kp.dec hk hn
theorem C3.kp {R g : Nat} {V w1 : World} {x y z : Value} (h : C3 V g x y z) (hk : Kp R V.heap.size V w1) (hn : g ≠ R) : C3 w1 g x y z := by
  obtain ⟨a, b, c, d, e, f, u⟩ := h
  have hz := hk.size
  exact ⟨(hk.cell u hn).trans a, (hk.cell u hn).trans b, (hk.cell u hn).trans c, (hk.frozen u hn).trans d, (hk.frozen u hn).trans e, (hk.frozen u hn).trans f, by omega⟩

set_option maxHeartbeats 2000000 in
theorem someDec_any (R : Nat) (K : Int) (w : World) (h : Rd R K w) (hK : K ≤ 800) :
    Calls Tryz.prog 41 #[.pointer (some ⟨R, 0, none⟩)] w fun r w' => IsDec r ∧ Rd R (K + 20) w' ∧ Kp R w.heap.size w w' := by
  have hR := h.1
  have hr := h
  have zA := Z3.new w
  have hgR : w.heap.size ≠ R := by omega
  go_enter Tryz.func41, Tryz.ntmps41
  go_wp2_with (first
    | (go_at_call 69; refine Calls.mono (goodDec_any R _ _ (hr.up _) ?_) ?_; omega; rintro r w1 ⟨⟨n, c, e, rfl⟩, hr, hk⟩; have hR1 := hr.1; have hne := Nat.ne_of_gt hr.1; have hz := hk.size; (try simp at hz); (try obtain ⟨q0, q1, q2, z0, z1, z2, qz⟩ := Kp.dec hk (by omega)); (try (have zN := Z3.kp (by first | with_reducible exact zA | with_reducible exact zA.up _ | with_reducible exact (zA.up _).up _) hk hgR; clear zA; have zA := zN; clear zN; have zC := zA; obtain ⟨y0, y1, y2, y3, y4, y5, y6⟩ := zC; have hnw := Nat.ne_of_lt y6; have hnw2 := Nat.ne_of_gt y6)))
    | (go_at_call 70; (first | with_reducible refine Calls.mono (pick_any R _ _ _ hr ?_) ?_ | with_reducible refine Calls.mono (pick_any R _ _ _ (hr.up _) ?_) ?_ | with_reducible refine Calls.mono (pick_any R _ _ _ ((hr.up _).up _) ?_) ?_ | with_reducible refine Calls.mono (pick_any R _ _ _ ((((hr.up _).set (by omega) _).set (by omega) _).set (by omega) _) ?_) ?_ | with_reducible refine Calls.mono (pick_any R _ _ _ (((((hr.up _).set (by omega) _).set (by omega) _).set (by omega) _).up _) ?_) ?_ | with_reducible refine Calls.mono (pick_any R _ _ _ (hr.set (by omega) _) ?_) ?_ | with_reducible refine Calls.mono (pick_any R _ _ _ ((hr.set (by omega) _).up _) ?_) ?_); omega; rintro r w1 ⟨⟨x, rfl, hx0, hx1⟩, hr, hk⟩; have hR1 := hr.1; have hne := Nat.ne_of_gt hr.1; have hz := hk.size; (try simp at hz); (try (have zN := Z3.kp (by first | with_reducible exact zA | with_reducible exact zA.up _ | with_reducible exact (zA.up _).up _) hk hgR; clear zA; have zA := zN; clear zN; have zC := zA; obtain ⟨y0, y1, y2, y3, y4, y5, y6⟩ := zC; have hnw := Nat.ne_of_lt y6; have hnw2 := Nat.ne_of_gt y6)); have zB := C3.dec hk (by omega); have zD := zB; obtain ⟨b0, b1, b2, b3, b4, b5, b6⟩ := zD)
    | (go_at_call 42; (first | with_reducible refine Calls.mono (one_any R _ _ _ _ _ hr ?_ ?_ ?_ ?_) ?_ | with_reducible refine Calls.mono (one_any R _ _ _ _ _ (hr.up _) ?_ ?_ ?_ ?_) ?_ | with_reducible refine Calls.mono (one_any R _ _ _ _ _ ((hr.up _).up _) ?_ ?_ ?_ ?_) ?_ | with_reducible refine Calls.mono (one_any R _ _ _ _ _ ((((hr.up _).set (by omega) _).set (by omega) _).set (by omega) _) ?_ ?_ ?_ ?_) ?_ | with_reducible refine Calls.mono (one_any R _ _ _ _ _ (((((hr.up _).set (by omega) _).set (by omega) _).set (by omega) _).up _) ?_ ?_ ?_ ?_) ?_ | with_reducible refine Calls.mono (one_any R _ _ _ _ _ (hr.set (by omega) _) ?_ ?_ ?_ ?_) ?_ | with_reducible refine Calls.mono (one_any R _ _ _ _ _ ((hr.set (by omega) _).up _) ?_ ?_ ?_ ?_) ?_); omega; omega; exact Nums.new _ _ _ 2 (by simp) rfl; omega; rintro r w1 ⟨⟨y, rfl⟩, hr, hk⟩; have hR1 := hr.1; have hne := Nat.ne_of_gt hr.1; have hz := hk.size; (try simp at hz); (try (have zN := Z3.kp (by first | with_reducible exact zA | with_reducible exact zA.up _ | with_reducible exact (zA.up _).up _) hk hgR; clear zA; have zA := zN; clear zN; have zC := zA; obtain ⟨y0, y1, y2, y3, y4, y5, y6⟩ := zC; have hnw := Nat.ne_of_lt y6; have hnw2 := Nat.ne_of_gt y6)); have zM := C3.kp (zB.up _) hk (by omega); obtain ⟨c0, c1, c2, c3, c4, c5, c6⟩ := zM))
  · have hrm := hr.mono (show _ ≤ K + 20 by omega)
    exact bodyPost_ret (v := .agg #[.bool n, .int .i64 y, .int .i64 e]) (by simp [results, Tryz.results41, go_sem, *]) rfl ⟨IsDec.mk _ _ _, (by repeat (first | with_reducible assumption | with_reducible refine Rd.up ?_ _ | with_reducible refine Rd.drew ?_ | with_reducible refine Rd.set ?_ (by first | omega | (simp; done) | (simp <;> omega)) _)), (by repeat (first | with_reducible assumption | with_reducible exact Kp.refl _ _ _ | with_reducible refine Kp.up ?_ (by first | omega | (simp; done) | (simp <;> omega)) _ | with_reducible refine Kp.set ?_ (by first | omega | (simp; done) | (simp <;> omega)) _ _ | with_reducible refine Kp.drew ?_ | with_reducible refine Kp.step ?_ (by with_reducible assumption)))⟩
  · have hrm := hr.mono (show _ ≤ K + 20 by omega)
    exact bodyPost_ret (v := .agg #[.bool n, .int .i64 c, .int .i64 y]) (by simp [results, Tryz.results41, go_sem, *]) rfl ⟨IsDec.mk _ _ _, (by repeat (first | with_reducible assumption | with_reducible refine Rd.up ?_ _ | with_reducible refine Rd.drew ?_ | with_reducible refine Rd.set ?_ (by first | omega | (simp; done) | (simp <;> omega)) _)), (by repeat (first | with_reducible assumption | with_reducible exact Kp.refl _ _ _ | with_reducible refine Kp.up ?_ (by first | omega | (simp; done) | (simp <;> omega)) _ | with_reducible refine Kp.set ?_ (by first | omega | (simp; done) | (simp <;> omega)) _ _ | with_reducible refine Kp.drew ?_ | with_reducible refine Kp.step ?_ (by with_reducible assumption)))⟩
  · have hrm := hr.mono (show _ ≤ K + 20 by omega)
    exact bodyPost_ret (v := .agg #[.bool (!n), .int .i64 c, .int .i64 e]) (by simp [results, Tryz.results41, go_sem, *]) rfl ⟨IsDec.mk _ _ _, (by repeat (first | with_reducible assumption | with_reducible refine Rd.up ?_ _ | with_reducible refine Rd.drew ?_ | with_reducible refine Rd.set ?_ (by first | omega | (simp; done) | (simp <;> omega)) _)), (by repeat (first | with_reducible assumption | with_reducible exact Kp.refl _ _ _ | with_reducible refine Kp.up ?_ (by first | omega | (simp; done) | (simp <;> omega)) _ | with_reducible refine Kp.set ?_ (by first | omega | (simp; done) | (simp <;> omega)) _ _ | with_reducible refine Kp.drew ?_ | with_reducible refine Kp.step ?_ (by with_reducible assumption)))⟩
  · have hrm := hr.mono (show _ ≤ K + 20 by omega)
    exact bodyPost_ret (v := .agg #[.bool n, .int .i64 c, .int .i64 e]) (by simp [results, Tryz.results41, go_sem, *]) rfl ⟨IsDec.mk _ _ _, (by repeat (first | with_reducible assumption | with_reducible refine Rd.up ?_ _ | with_reducible refine Rd.drew ?_ | with_reducible refine Rd.set ?_ (by first | omega | (simp; done) | (simp <;> omega)) _)), (by repeat (first | with_reducible assumption | with_reducible exact Kp.refl _ _ _ | with_reducible refine Kp.up ?_ (by first | omega | (simp; done) | (simp <;> omega)) _ | with_reducible refine Kp.set ?_ (by first | omega | (simp; done) | (simp <;> omega)) _ _ | with_reducible refine Kp.drew ?_ | with_reducible refine Kp.step ?_ (by with_reducible assumption)))⟩
end Go.Proofs.YtebheehjhnaklaaGreatDoor
namespace Go.Proofs.YtebheehjhnaklaaGreatDoor
open Go Go.RowKit
set_option maxRecDepth 100000 in
set_option maxHeartbeats 4000000 in
theorem drop_any (s : ByteArray) (c : UInt8) (w : World) (hs : s.size ≤ 1000) :
    Calls Tryz.prog 66 #[.string s, .int .u8 c.toNat] w fun r w' => r = .returned (.string ⟨(wo c s.data.toList).toArray⟩) ∧ w = w' := by
  go_enter Tryz.func66, Tryz.ntmps66
  go_wp2
  go_loopg [5, 6] s.size (fun g s4 s5 wr => ∃ (k : Nat) (out : List UInt8), wr = w ∧ s4 = .string ⟨out.toArray⟩ ∧ s5 = .int .i64 k ∧ k ≤ s.size ∧ out.length ≤ k ∧ Aside (out ++ wo c (s.data.toList.drop k) = wo c s.data.toList) ∧ Aside (g = s.size - k))
  case atStart => exact ⟨0, [], rfl, rfl, rfl, by omega, by simp, by show _ = _; simp, by show _ = _; omega⟩
  case round =>
    obtain ⟨k, out, rfl, rfl, rfl, hk, ho, hG, hg⟩ := hrel
    have hG' := hG.out
    have hg' := hg.out
    clear hG hg
    by_cases hlt : k < s.size
    · have i1 : (k : Int) < s.size := by omega
      have i2 : (k : Int) + 1 ≤ s.size := by omega
      have T1 := wo_step c hlt
      by_cases hc : s[k] = c
      · rw [if_pos (by simp [hc]), List.nil_append] at T1
        rw [T1] at hG'
        have e1 : ((s[k].toNat : Int) == (c.toNat : Int)) = true := by rw [hc]; simp
        have e2 : ((s[k].toNat : Int) != (c.toNat : Int)) = false := by simp [bne, e1]
        have HG := Lib.hid hG'
        clear hG' T1 hc
        go_wp2
        go_roundg (s.size - (k + 1))
        case measure => omega
        case rel => exact ⟨k + 1, out, rfl, rfl, by go_num, by omega, by omega, HG.out, rfl⟩
      · rw [if_neg (by simp [hc])] at T1
        rw [T1] at hG'
        have e0 : ¬ ((s[k].toNat : Int) = (c.toNat : Int)) := fun e => hc (UInt8.toNat_inj.1 (by omega))
        have e1 : ((s[k].toNat : Int) == (c.toNat : Int)) = false := by simpa using e0
        have e2 : ((s[k].toNat : Int) != (c.toNat : Int)) = true := by simp [bne, e1]
        have HG := Lib.hid hG'
        clear hG' T1 hc
        go_wp2
        go_roundg (s.size - (k + 1))
        case measure => omega
        case rel => exact ⟨k + 1, out ++ [s[k]], rfl, by rw [cat_one out hlt], by go_num, by omega, by simp; omega, by show _ = _; rw [List.append_assoc]; exact HG.out, rfl⟩
    · have i1 : ¬ (k : Int) < s.size := by omega
      have hll : s.data.toList.length = s.size := by rw [Array.length_toList]; rfl
      rw [List.drop_eq_nil_of_le (by omega)] at hG'
      have e : out = wo c s.data.toList := by simpa [wo] using hG'
      subst e
      clear hG'
      go_wp2
      go_ret
      exact ⟨rfl, rfl⟩
set_option maxRecDepth 100000 in
set_option maxHeartbeats 4000000 in
theorem countByte_any (l : List UInt8) (c : UInt8) (w : World) (hs : l.length ≤ 1000) :
    Calls Tryz.prog 19 #[.string ⟨l.toArray⟩, .int .u8 c.toNat] w fun r w' => r = .returned (.int .i64 ((l.length : Int) - (wo c l).length)) ∧ w = w' := by
  have k1 := fun W => drop_any ⟨l.toArray⟩ c W hs
  rw [show (⟨l.toArray⟩ : ByteArray).data.toList = l from rfl] at k1
  have hl := wo_len c l
  generalize wo c l = D at *
  have hw1 : IntKind.i64.wrap ((l.length : Int) - D.length) = (l.length : Int) - D.length := IntWalk.i64_in _ (by omega)
  have K1 := Lib.hid k1
  clear k1
  go_enter Tryz.func19, Tryz.ntmps19
  go_wp2_with (go_at_call 66; (with_reducible refine Calls.mono (K1.out _) ?_); rintro r w1 ⟨rfl, rfl⟩)
  all_goals go_ret
  all_goals exact ⟨rfl, rfl⟩
set_option maxHeartbeats 400000 in
theorem NegateDec_any (n : Bool) (c e : Int) (w : World) :
    Calls Tryz.prog 62 #[.agg #[.bool n, .int .i64 c, .int .i64 e]] w fun r w' =>
      r = .returned (.agg #[.bool (Fd.neg ⟨n, c, e⟩).n, .int .i64 (Fd.neg ⟨n, c, e⟩).c, .int .i64 (Fd.neg ⟨n, c, e⟩).e]) ∧ Below w.heap.size w w' := by
  cases hv : Fd.vld ⟨n, c, e⟩
  · have HF : Hid (Fd.neg ⟨n, c, e⟩ = Fd.D.z) := Lib.hid (by unfold Fd.neg; rw [hv]; rfl)
    go_enter Tryz.func62, Tryz.ntmps62
    go_wp2_with (go_at_call 59; refine (valid_any _ _ _ _).mono ?_; rintro r w1 ⟨rfl, hb⟩; obtain ⟨hc, hf⟩ := bcell hb; have hB : Below w.heap.size w w1 := (by refine Below.trans ?_ (hb.mono (by first | omega | (simp; done) | (simp <;> omega))); repeat (first | with_reducible exact Below.refl _ _ | with_reducible assumption | with_reducible refine Below.setCell ?_ (by first | omega | (simp; done) | (simp <;> omega)) _ | with_reducible refine below_drewN ?_ _ | with_reducible refine Below.drew ?_ | with_reducible refine Below.alloc ?_ (by first | omega | (simp; done) | (simp <;> omega)) _)); have hz := hb.size; (try simp at hz); (try have hz0 : w.heap.size < w1.heap.size := by omega); (try have hz1 : w.heap.size + 1 < w1.heap.size := by omega); (try have hz2 : w.heap.size + 1 + 1 < w1.heap.size := by omega))
    exact bodyPost_ret (v := .agg #[.bool false, .int .i64 0, .int .i64 0]) (by simp [results, Tryz.results62, go_sem, hc]) rfl ⟨by rw [HF.out]; rfl, (by repeat (first | with_reducible exact Below.refl _ _ | with_reducible assumption | with_reducible refine Below.setCell ?_ (by first | omega | (simp; done) | (simp <;> omega)) _ | with_reducible refine below_drewN ?_ _ | with_reducible refine Below.drew ?_ | with_reducible refine Below.alloc ?_ (by first | omega | (simp; done) | (simp <;> omega)) _))⟩
  · have HF : Hid (Fd.neg ⟨n, c, e⟩ = ⟨decide (0 < c) && !n, c, e⟩) := Lib.hid (by unfold Fd.neg; rw [hv]; rfl)
    by_cases h0 : 0 < c
    · have HG : Hid ((⟨decide (0 < c) && !n, c, e⟩ : Fd.D) = ⟨!n, c, e⟩) := Lib.hid (by rw [decide_eq_true h0, Bool.true_and])
      go_enter Tryz.func62, Tryz.ntmps62
      go_wp2_with (go_at_call 59; refine (valid_any _ _ _ _).mono ?_; rintro r w1 ⟨rfl, hb⟩; obtain ⟨hc, hf⟩ := bcell hb; have hB : Below w.heap.size w w1 := (by refine Below.trans ?_ (hb.mono (by first | omega | (simp; done) | (simp <;> omega))); repeat (first | with_reducible exact Below.refl _ _ | with_reducible assumption | with_reducible refine Below.setCell ?_ (by first | omega | (simp; done) | (simp <;> omega)) _ | with_reducible refine below_drewN ?_ _ | with_reducible refine Below.drew ?_ | with_reducible refine Below.alloc ?_ (by first | omega | (simp; done) | (simp <;> omega)) _)); have hz := hb.size; (try simp at hz); (try have hz0 : w.heap.size < w1.heap.size := by omega); (try have hz1 : w.heap.size + 1 < w1.heap.size := by omega); (try have hz2 : w.heap.size + 1 + 1 < w1.heap.size := by omega))
      exact bodyPost_ret (v := .agg #[.bool !n, .int .i64 c, .int .i64 e]) (by simp [results, Tryz.results62, go_sem, hc]) rfl ⟨by rw [HF.out, HG.out], (by repeat (first | with_reducible exact Below.refl _ _ | with_reducible assumption | with_reducible refine Below.setCell ?_ (by first | omega | (simp; done) | (simp <;> omega)) _ | with_reducible refine below_drewN ?_ _ | with_reducible refine Below.drew ?_ | with_reducible refine Below.alloc ?_ (by first | omega | (simp; done) | (simp <;> omega)) _))⟩
    · have HG : Hid ((⟨decide (0 < c) && !n, c, e⟩ : Fd.D) = ⟨false, c, e⟩) := Lib.hid (by rw [decide_eq_false h0, Bool.false_and])
      go_enter Tryz.func62, Tryz.ntmps62
      go_wp2_with (go_at_call 59; refine (valid_any _ _ _ _).mono ?_; rintro r w1 ⟨rfl, hb⟩; obtain ⟨hc, hf⟩ := bcell hb; have hB : Below w.heap.size w w1 := (by refine Below.trans ?_ (hb.mono (by first | omega | (simp; done) | (simp <;> omega))); repeat (first | with_reducible exact Below.refl _ _ | with_reducible assumption | with_reducible refine Below.setCell ?_ (by first | omega | (simp; done) | (simp <;> omega)) _ | with_reducible refine below_drewN ?_ _ | with_reducible refine Below.drew ?_ | with_reducible refine Below.alloc ?_ (by first | omega | (simp; done) | (simp <;> omega)) _)); have hz := hb.size; (try simp at hz); (try have hz0 : w.heap.size < w1.heap.size := by omega); (try have hz1 : w.heap.size + 1 < w1.heap.size := by omega); (try have hz2 : w.heap.size + 1 + 1 < w1.heap.size := by omega))
      exact bodyPost_ret (v := .agg #[.bool false, .int .i64 c, .int .i64 e]) (by simp [results, Tryz.results62, go_sem, hc]) rfl ⟨by rw [HF.out, HG.out], (by repeat (first | with_reducible exact Below.refl _ _ | with_reducible assumption | with_reducible refine Below.setCell ?_ (by first | omega | (simp; done) | (simp <;> omega)) _ | with_reducible refine below_drewN ?_ _ | with_reducible refine Below.drew ?_ | with_reducible refine Below.alloc ?_ (by first | omega | (simp; done) | (simp <;> omega)) _))⟩

set_option maxHeartbeats 400000 in
theorem amount_any (n : Bool) (c e : Int) (w : World) (hv : Fd.vld ⟨n, c, e⟩ = true) :
    Calls Tryz.prog 15 #[.agg #[.bool n, .int .i64 c, .int .i64 e]] w fun r w' => r = .returned (.agg #[.bool false, .int .i64 c, .int .i64 e]) ∧ Below w.heap.size w w' := by
  cases n
  · go_enter Tryz.func15, Tryz.ntmps15
    go_wp2
    exact bodyPost_ret (v := .agg #[.bool false, .int .i64 c, .int .i64 e]) (by simp [results, Tryz.results15, go_sem]) rfl ⟨rfl, (by repeat (first | with_reducible exact Below.refl _ _ | with_reducible assumption | with_reducible refine Below.setCell ?_ (by first | omega | (simp; done) | (simp <;> omega)) _ | with_reducible refine below_drewN ?_ _ | with_reducible refine Below.drew ?_ | with_reducible refine Below.alloc ?_ (by first | omega | (simp; done) | (simp <;> omega)) _))⟩
  · have hS := fun W => NegateDec_any true c e W
    rw [show Fd.neg ⟨true, c, e⟩ = ⟨false, c, e⟩ from by unfold Fd.neg; rw [if_pos hv]; simp] at hS
    have HS := Lib.hid hS
    clear hS
    go_enter Tryz.func15, Tryz.ntmps15
    go_wp2_with (go_at_call 62; refine (HS.out _).mono ?_; rintro r w1 ⟨rfl, hb⟩; obtain ⟨hc, hf⟩ := bcell hb; have hB : Below w.heap.size w w1 := (by refine Below.trans ?_ (hb.mono (by first | omega | (simp; done) | (simp <;> omega))); repeat (first | with_reducible exact Below.refl _ _ | with_reducible assumption | with_reducible refine Below.setCell ?_ (by first | omega | (simp; done) | (simp <;> omega)) _ | with_reducible refine below_drewN ?_ _ | with_reducible refine Below.drew ?_ | with_reducible refine Below.alloc ?_ (by first | omega | (simp; done) | (simp <;> omega)) _)); have hz := hb.size; (try simp at hz); (try have hz0 : w.heap.size < w1.heap.size := by omega); (try have hz1 : w.heap.size + 1 < w1.heap.size := by omega); (try have hz2 : w.heap.size + 1 + 1 < w1.heap.size := by omega); have hm := bmono hb; (try simp at hm); (try have hm2 := bmono2 (by with_reducible assumption) hb); (try have hq2 := Nat.lt_of_succ_le hz); (try have hq3 := Nat.lt_of_lt_of_le (by with_reducible assumption : _ < World.heap.size _) hz))
    exact bodyPost_ret (v := .agg #[.bool false, .int .i64 c, .int .i64 e]) (by simp [results, Tryz.results15, go_sem, *]) rfl ⟨rfl, (by repeat (first | with_reducible exact Below.refl _ _ | with_reducible assumption | with_reducible refine Below.setCell ?_ (by first | omega | (simp; done) | (simp <;> omega)) _ | with_reducible refine below_drewN ?_ _ | with_reducible refine Below.drew ?_ | with_reducible refine Below.alloc ?_ (by first | omega | (simp; done) | (simp <;> omega)) _))⟩
end Go.Proofs.YtebheehjhnaklaaGreatDoor
