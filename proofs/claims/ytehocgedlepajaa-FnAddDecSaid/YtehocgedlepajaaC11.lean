import Derived.Test.YtehocgedlepajaaC10
import Derived.Deep.Light
namespace Go.Proofs.Ytehocgedlepajaa
open Go.RowKit

theorem sum_bd {s c P : Int} (h1 : -1 ≤ s) (h2 : s ≤ 1) (h3 : 0 ≤ c) (h4 : c ≤ 999999999) (h5 : 1 ≤ P) (h6 : P ≤ 1000000000) :
    -999999999 ≤ s * c ∧ s * c ≤ 999999999 ∧ -999999999000000000 ≤ s * c * P ∧ s * c * P ≤ 999999999000000000 := by
  have h : 0 ≤ c * P := Int.mul_nonneg h3 (by omega)
  have h' : c * P ≤ 999999999 * 1000000000 := Int.mul_le_mul h4 h6 (by omega) (by omega)
  have : s = -1 ∨ s = 0 ∨ s = 1 := by omega
  rcases this with rfl | rfl | rfl
  · rw [Int.neg_one_mul, Int.neg_mul]; omega
  · simp
  · rw [Int.one_mul]; omega

theorem set6 {w1 : World} {b b' : Nat} {a0 a1 a2 : Value} (hne : b' ≠ b) (h0 : w1.cell? ⟨b, 0, none⟩ = some a0) (h1 : w1.cell? ⟨b, 1, none⟩ = some a1) (h2 : w1.cell? ⟨b, 2, none⟩ = some a2) (x y z x' y' z' : Value) :
    ((((((w1.setCell ⟨b, 0, none⟩ x).setCell ⟨b, 1, none⟩ y).setCell ⟨b, 2, none⟩ z).setCell ⟨b', 0, none⟩ x').setCell ⟨b', 1, none⟩ y').setCell ⟨b', 2, none⟩ z').cell? ⟨b, 0, none⟩ = some x ∧
    ((((((w1.setCell ⟨b, 0, none⟩ x).setCell ⟨b, 1, none⟩ y).setCell ⟨b, 2, none⟩ z).setCell ⟨b', 0, none⟩ x').setCell ⟨b', 1, none⟩ y').setCell ⟨b', 2, none⟩ z').cell? ⟨b, 1, none⟩ = some y ∧
    ((((((w1.setCell ⟨b, 0, none⟩ x).setCell ⟨b, 1, none⟩ y).setCell ⟨b, 2, none⟩ z).setCell ⟨b', 0, none⟩ x').setCell ⟨b', 1, none⟩ y').setCell ⟨b', 2, none⟩ z').cell? ⟨b, 2, none⟩ = some z := by
  have g := set3 h0 h1 h2 x y z
  refine ⟨?_, ?_, ?_⟩
  · rw [World.cell?_setCell_far _ ⟨b', 2, none⟩ _ _ hne, World.cell?_setCell_far _ ⟨b', 1, none⟩ _ _ hne, World.cell?_setCell_far _ ⟨b', 0, none⟩ _ _ hne]; exact g.1
  · rw [World.cell?_setCell_far _ ⟨b', 2, none⟩ _ _ hne, World.cell?_setCell_far _ ⟨b', 1, none⟩ _ _ hne, World.cell?_setCell_far _ ⟨b', 0, none⟩ _ _ hne]; exact g.2.1
  · rw [World.cell?_setCell_far _ ⟨b', 2, none⟩ _ _ hne, World.cell?_setCell_far _ ⟨b', 1, none⟩ _ _ hne, World.cell?_setCell_far _ ⟨b', 0, none⟩ _ _ hne]; exact g.2.2
theorem hfs {s : Int} (e : Int) (_w : World) (h : -2000000000000000000 ≤ s ∧ s ≤ 2000000000000000000) : (Fd.fromS s e).c ≤ 2000000000000000000 := by
  unfold Fd.fromS; simp only; split <;> omega
/-- a new block of three zero cells, as a later world has it -/
def Z3 (w1 : World) (g : Nat) : Prop := w1.cell? ⟨g, 0, none⟩ = some (.bool false) ∧ w1.cell? ⟨g, 1, none⟩ = some (.int .i64 0) ∧ w1.cell? ⟨g, 2, none⟩ = some (.int .i64 0) ∧
  w1.frozen? ⟨g, 0, none⟩ = false ∧ w1.frozen? ⟨g, 1, none⟩ = false ∧ w1.frozen? ⟨g, 2, none⟩ = false ∧ g < w1.heap.size
theorem Z3.new (V : World) : Z3 (V.alloc (.cells #[.bool false, .int .i64 0, .int .i64 0] 24)) V.heap.size := by
  refine ⟨?_, ?_, ?_, ?_, ?_, ?_, ?_⟩ <;> simp [go_sem]
theorem Z3.up {V : World} {g : Nat} (h : Z3 V g) (x : Obj) : Z3 (V.alloc x) g := by
  obtain ⟨a, b, c, d, e, f, z⟩ := h
  have hb : Below V.heap.size V (V.alloc x) := (Below.refl _ _).alloc (Nat.le_refl _) _
  exact ⟨(hb.cell z).trans a, (hb.cell z).trans b, (hb.cell z).trans c, (hb.frozen z).trans d, (hb.frozen z).trans e, (hb.frozen z).trans f, by simp; omega⟩
theorem Z3.drew {V : World} {g : Nat} (h : Z3 V g) : Z3 V.drew g := h
theorem Z3.carry {V w1 : World} {g : Nat} (h : Z3 V g) (hb : Below V.heap.size V w1) : Z3 w1 g := by
  obtain ⟨a, b, c, d, e, f, z⟩ := h
  have hz := hb.size
  exact ⟨(hb.cell z).trans a, (hb.cell z).trans b, (hb.cell z).trans c, (hb.frozen z).trans d, (hb.frozen z).trans e, (hb.frozen z).trans f, by omega⟩
def Fin (T : World) (g h : Nat) (x y z x' y' z' : Value) : Prop :=
  T.cell? ⟨g, 0, none⟩ = some x ∧ T.cell? ⟨g, 1, none⟩ = some y ∧ T.cell? ⟨g, 2, none⟩ = some z ∧ T.cell? ⟨h, 0, none⟩ = some x' ∧ T.cell? ⟨h, 1, none⟩ = some y' ∧ T.cell? ⟨h, 2, none⟩ = some z' ∧
  (T.frozen? ⟨g, 0, none⟩ = false ∧ T.frozen? ⟨g, 1, none⟩ = false ∧ T.frozen? ⟨g, 2, none⟩ = false ∧ T.frozen? ⟨h, 0, none⟩ = false ∧ T.frozen? ⟨h, 1, none⟩ = false ∧ T.frozen? ⟨h, 2, none⟩ = false)
theorem finG {T : World} {g h : Nat} {x y z x' y' z' : Value} {q : Prop} (f : Fin T g h x y z x' y' z') (hq : q) :
    T.cell? ⟨g, 0, none⟩ = some x ∧ T.cell? ⟨g, 1, none⟩ = some y ∧ T.cell? ⟨g, 2, none⟩ = some z ∧ T.cell? ⟨h, 0, none⟩ = some x' ∧ T.cell? ⟨h, 1, none⟩ = some y' ∧ T.cell? ⟨h, 2, none⟩ = some z' ∧
    (T.frozen? ⟨g, 0, none⟩ = false ∧ T.frozen? ⟨g, 1, none⟩ = false ∧ T.frozen? ⟨g, 2, none⟩ = false ∧ T.frozen? ⟨h, 0, none⟩ = false ∧ T.frozen? ⟨h, 1, none⟩ = false ∧ T.frozen? ⟨h, 2, none⟩ = false) ∧ q :=
  ⟨f.1, f.2.1, f.2.2.1, f.2.2.2.1, f.2.2.2.2.1, f.2.2.2.2.2.1, f.2.2.2.2.2.2, hq⟩
theorem finC {w1 : World} {g h : Nat} (zg : Z3 w1 g) (zh : Z3 w1 h) (hgh : h ≠ g) (x y z x' y' z' : Value) :
    Fin ((((((w1.setCell ⟨g, 0, none⟩ x).setCell ⟨g, 1, none⟩ y).setCell ⟨g, 2, none⟩ z).setCell ⟨h, 0, none⟩ x').setCell ⟨h, 1, none⟩ y').setCell ⟨h, 2, none⟩ z') g h x y z x' y' z' := by
  obtain ⟨a, b, c, d, e, f, _⟩ := zg
  obtain ⟨a', b', c', d', e', f', _⟩ := zh
  obtain ⟨p0, p1, p2⟩ := set6 hgh a b c x y z x' y' z'
  have hgh' : g ≠ h := fun q => hgh q.symm
  have k : ∀ o, (((w1.setCell ⟨g, 0, none⟩ x).setCell ⟨g, 1, none⟩ y).setCell ⟨g, 2, none⟩ z).cell? ⟨h, o, none⟩ = w1.cell? ⟨h, o, none⟩ := fun o => by
    rw [World.cell?_setCell_far _ ⟨g, 2, none⟩ _ _ hgh', World.cell?_setCell_far _ ⟨g, 1, none⟩ _ _ hgh', World.cell?_setCell_far _ ⟨g, 0, none⟩ _ _ hgh']
  obtain ⟨q0, q1, q2⟩ := set3 ((k 0).trans a') ((k 1).trans b') ((k 2).trans c') x' y' z'
  exact ⟨p0, p1, p2, q0, q1, q2, by simp [go_sem, d], by simp [go_sem, e], by simp [go_sem, f], by simp [go_sem, d'], by simp [go_sem, e'], by simp [go_sem, f']⟩
theorem finB {w1 : World} {h : Nat} (zh : Z3 w1 h) (x y z x' y' z' : Value) :
    Fin ((((w1.setCell ⟨h, 0, none⟩ x').setCell ⟨h, 1, none⟩ y').setCell ⟨h, 2, none⟩ z').alloc (.cells #[x, y, z] 24)) w1.heap.size h x y z x' y' z' := by
  obtain ⟨a, b, c, d, e, f, hz⟩ := zh
  obtain ⟨q0, q1, q2⟩ := set3 a b c x' y' z'
  have hs : (((w1.setCell ⟨h, 0, none⟩ x').setCell ⟨h, 1, none⟩ y').setCell ⟨h, 2, none⟩ z').heap.size = w1.heap.size := by simp
  generalize hV : ((w1.setCell ⟨h, 0, none⟩ x').setCell ⟨h, 1, none⟩ y').setCell ⟨h, 2, none⟩ z' = V at *
  have hf : ∀ o, V.frozen? ⟨h, o, none⟩ = w1.frozen? ⟨h, o, none⟩ := fun o => by rw [← hV]; simp [go_sem]
  have hb : Below V.heap.size V (V.alloc (.cells #[x, y, z] 24)) := (Below.refl _ _).alloc (Nat.le_refl _) _
  have hlt : h < V.heap.size := by omega
  rw [← hs]
  exact ⟨by simp [go_sem], by simp [go_sem], by simp [go_sem], (hb.cell hlt).trans q0, (hb.cell hlt).trans q1, (hb.cell hlt).trans q2, by simp [go_sem], by simp [go_sem], by simp [go_sem], (hb.frozen hlt).trans ((hf 0).trans d), (hb.frozen hlt).trans ((hf 1).trans e), (hb.frozen hlt).trans ((hf 2).trans f)⟩
theorem finB' {w1 : World} {g : Nat} (zg : Z3 w1 g) (x y z x' y' z' : Value) :
    Fin ((((w1.setCell ⟨g, 0, none⟩ x).setCell ⟨g, 1, none⟩ y).setCell ⟨g, 2, none⟩ z).alloc (.cells #[x', y', z'] 24)) g w1.heap.size x y z x' y' z' := by
  obtain ⟨p0, p1, p2, p3, p4, p5, f0, f1, f2, f3, f4, f5⟩ := finB zg x' y' z' x y z
  exact ⟨p3, p4, p5, p0, p1, p2, f3, f4, f5, f0, f1, f2⟩
theorem finA {w1 : World} (x y z x' y' z' : Value) : Fin ((w1.alloc (.cells #[x, y, z] 24)).alloc (.cells #[x', y', z'] 24)) w1.heap.size (w1.heap.size + 1) x y z x' y' z' := by
  unfold Fin; refine ⟨?_, ?_, ?_, ?_, ?_, ?_, ?_, ?_, ?_, ?_, ?_, ?_⟩ <;> simp [go_sem]
theorem finA' {w1 : World} (x y z x' y' z' : Value) : Fin ((w1.alloc (.cells #[x', y', z'] 24)).alloc (.cells #[x, y, z] 24)) (w1.heap.size + 1) w1.heap.size x y z x' y' z' := by
  unfold Fin; refine ⟨?_, ?_, ?_, ?_, ?_, ?_, ?_, ?_, ?_, ?_, ?_, ?_⟩ <;> simp [go_sem]
/-- where a sum is looked up: both amounts, and what the sum comes to -/
structure SumCase (a b hi lo : Fd.D) : Prop where
  no0 : (a.c == 0) = false
  no1 : (b.c == 0) = false
  ehl : lo.e ≤ hi.e
  vh : Fd.vldP hi
  vl : Fd.vldP lo

set_option maxHeartbeats 32000000 in
theorem AddDec_any (n : Bool) (c e : Int) (n' : Bool) (c' e' : Int) (w : World) :
    Calls Try.prog 29 #[.agg #[.bool n, .int .i64 c, .int .i64 e], .agg #[.bool n', .int .i64 c', .int .i64 e']] w fun r w' =>
      r = .returned (.tuple #[.agg #[.bool (Fd.addI ⟨n, c, e⟩ ⟨n', c', e'⟩).1.n, .int .i64 (Fd.addI ⟨n, c, e⟩ ⟨n', c', e'⟩).1.c, .int .i64 (Fd.addI ⟨n, c, e⟩ ⟨n', c', e'⟩).1.e], .bool (Fd.addI ⟨n, c, e⟩ ⟨n', c', e'⟩).2]) ∧ Below w.heap.size w w' := by
  cases hv : Fd.vld ⟨n, c, e⟩
  · have HF : Hid (Fd.addI ⟨n, c, e⟩ ⟨n', c', e'⟩ = (Fd.D.z, false)) := Lib.hid (by unfold Fd.addI; rw [hv]; rfl)
    go_enter Try.func29, Try.ntmps29
    go_wp2_with (go_at_call 56; refine (valid_any _ _ _ _).mono ?_; rintro r w1 ⟨rfl, hb⟩; obtain ⟨hc, hf⟩ := bcell hb; have hB : Below w.heap.size w w1 := (by refine Below.trans ?_ (hb.mono (by first | omega | (simp; done) | (simp <;> omega))); repeat (first | with_reducible exact Below.refl _ _ | with_reducible assumption | with_reducible refine Below.setCell ?_ (by first | omega | (simp; done) | (simp <;> omega)) _ | with_reducible refine below_drewN ?_ _ | with_reducible refine Below.drew ?_ | with_reducible refine Below.alloc ?_ (by first | omega | (simp; done) | (simp <;> omega)) _)); have hz := hb.size; (try simp at hz); (try have hz0 : w.heap.size < w1.heap.size := by omega); (try have hz1 : w.heap.size + 1 < w1.heap.size := by omega); (try have hz2 : w.heap.size + 1 + 1 < w1.heap.size := by omega))
    exact bodyPost_ret (v := .tuple #[.agg #[.bool false, .int .i64 0, .int .i64 0], .bool false]) (by simp [results, Try.results29, go_sem, *]) rfl ⟨by rw [HF.out]; rfl, (by repeat (first | with_reducible exact Below.refl _ _ | with_reducible assumption | with_reducible refine Below.setCell ?_ (by first | omega | (simp; done) | (simp <;> omega)) _ | with_reducible refine below_drewN ?_ _ | with_reducible refine Below.drew ?_ | with_reducible refine Below.alloc ?_ (by first | omega | (simp; done) | (simp <;> omega)) _))⟩
  cases hv' : Fd.vld ⟨n', c', e'⟩
  · have HF : Hid (Fd.addI ⟨n, c, e⟩ ⟨n', c', e'⟩ = (Fd.D.z, false)) := Lib.hid (by unfold Fd.addI; rw [hv, hv']; rfl)
    go_enter Try.func29, Try.ntmps29
    go_wp2_with (go_at_call 56; refine (valid_any _ _ _ _).mono ?_; rintro r w1 ⟨rfl, hb⟩; obtain ⟨hc, hf⟩ := bcell hb; have hB : Below w.heap.size w w1 := (by refine Below.trans ?_ (hb.mono (by first | omega | (simp; done) | (simp <;> omega))); repeat (first | with_reducible exact Below.refl _ _ | with_reducible assumption | with_reducible refine Below.setCell ?_ (by first | omega | (simp; done) | (simp <;> omega)) _ | with_reducible refine below_drewN ?_ _ | with_reducible refine Below.drew ?_ | with_reducible refine Below.alloc ?_ (by first | omega | (simp; done) | (simp <;> omega)) _)); have hz := hb.size; (try simp at hz); (try have hz0 : w.heap.size < w1.heap.size := by omega); (try have hz1 : w.heap.size + 1 < w1.heap.size := by omega); (try have hz2 : w.heap.size + 1 + 1 < w1.heap.size := by omega))
    exact bodyPost_ret (v := .tuple #[.agg #[.bool false, .int .i64 0, .int .i64 0], .bool false]) (by simp [results, Try.results29, go_sem, *]) rfl ⟨by rw [HF.out]; rfl, (by repeat (first | with_reducible exact Below.refl _ _ | with_reducible assumption | with_reducible refine Below.setCell ?_ (by first | omega | (simp; done) | (simp <;> omega)) _ | with_reducible refine below_drewN ?_ _ | with_reducible refine Below.drew ?_ | with_reducible refine Below.alloc ?_ (by first | omega | (simp; done) | (simp <;> omega)) _))⟩
  have HA0 : Hid (Fd.addI ⟨n, c, e⟩ ⟨n', c', e'⟩ = if (Fd.nd ⟨n, c, e⟩).c = 0 then (Fd.nd ⟨n', c', e'⟩, true) else if (Fd.nd ⟨n', c', e'⟩).c = 0 then (Fd.nd ⟨n, c, e⟩, true) else
    if (Fd.nd ⟨n, c, e⟩).e < (Fd.nd ⟨n', c', e'⟩).e then Fd.sumI (Fd.nd ⟨n', c', e'⟩) (Fd.nd ⟨n, c, e⟩) else Fd.sumI (Fd.nd ⟨n, c, e⟩) (Fd.nd ⟨n', c', e'⟩)) := Lib.hid (by unfold Fd.addI; rw [hv, hv']; rfl)
  have va := Lib.hid (Fd.nd_valid ⟨n, c, e⟩)
  have vb := Lib.hid (Fd.nd_valid ⟨n', c', e'⟩)
  go_enter Try.func29, Try.ntmps29
  go_upto_region 3 with (go_at_call 56; refine (valid_any _ _ _ _).mono ?_; rintro r w1 ⟨rfl, hb⟩; obtain ⟨hc, hf⟩ := bcell hb; have hB : Below w.heap.size w w1 := (by refine Below.trans ?_ (hb.mono (by first | omega | (simp; done) | (simp <;> omega))); repeat (first | with_reducible exact Below.refl _ _ | with_reducible assumption | with_reducible refine Below.setCell ?_ (by first | omega | (simp; done) | (simp <;> omega)) _ | with_reducible refine below_drewN ?_ _ | with_reducible refine Below.drew ?_ | with_reducible refine Below.alloc ?_ (by first | omega | (simp; done) | (simp <;> omega)) _)); have hz := hb.size; (try simp at hz); (try have hz0 : w.heap.size < w1.heap.size := by omega); (try have hz1 : w.heap.size + 1 < w1.heap.size := by omega); (try have hz2 : w.heap.size + 1 + 1 < w1.heap.size := by omega))
  clear hb hz
  generalize w1 = W at *
  go_cut [6, 7] (fun s6 s7 wx => ∃ g h : Nat, s6 = .pointer (some ⟨g, 0, none⟩) ∧ s7 = .pointer (some ⟨h, 0, none⟩) ∧ g ≠ h ∧ W.heap.size ≤ g ∧ W.heap.size ≤ h ∧
    wx.cell? ⟨g, 0, none⟩ = some (.bool (Fd.nd ⟨n, c, e⟩).n) ∧ wx.cell? ⟨g, 1, none⟩ = some (.int .i64 (Fd.nd ⟨n, c, e⟩).c) ∧ wx.cell? ⟨g, 2, none⟩ = some (.int .i64 (Fd.nd ⟨n, c, e⟩).e) ∧
    wx.cell? ⟨h, 0, none⟩ = some (.bool (Fd.nd ⟨n', c', e'⟩).n) ∧ wx.cell? ⟨h, 1, none⟩ = some (.int .i64 (Fd.nd ⟨n', c', e'⟩).c) ∧ wx.cell? ⟨h, 2, none⟩ = some (.int .i64 (Fd.nd ⟨n', c', e'⟩).e) ∧
    (wx.frozen? ⟨g, 0, none⟩ = false ∧ wx.frozen? ⟨g, 1, none⟩ = false ∧ wx.frozen? ⟨g, 2, none⟩ = false ∧ wx.frozen? ⟨h, 0, none⟩ = false ∧ wx.frozen? ⟨h, 1, none⟩ = false ∧ wx.frozen? ⟨h, 2, none⟩ = false) ∧
    (∀ b o, b < W.heap.size → wx.cell? ⟨b, o, none⟩ = W.cell? ⟨b, o, none⟩) ∧ Below W.heap.size W wx)
  case first =>
    have hS0 : (∀ b o, b < W.heap.size → W.cell? ⟨b, o, none⟩ = W.cell? ⟨b, o, none⟩) ∧ Below W.heap.size W W := ⟨fun _ _ _ => rfl, Below.refl _ _⟩; go_region_held3 (fun w_ => (∀ b o, b < W.heap.size → w_.cell? ⟨b, o, none⟩ = W.cell? ⟨b, o, none⟩) ∧ Below W.heap.size W w_) (repeat (first | with_reducible assumption | with_reducible refine keepD ?_ | with_reducible refine keepL ?_ _ | with_reducible refine keepS ?_ (by first | omega | (simp; done) | (simp <;> omega)) _ | with_reducible exact keepA (by with_reducible assumption) hb)) (first | (go_at_call_of 19 (Value.agg #[.bool n, .int .i64 c, .int .i64 e]); refine (NormalDec_any _ _ _ _).mono ?_; rintro r w1 ⟨rfl, hb⟩; obtain ⟨hc, hf⟩ := bcell hb; have hz := hb.size; have hm := bmono hb; (try simp at hz); (try simp at hm); (try have hm2 := bmono2 (by with_reducible assumption) hb); have hS1 := keepA (by with_reducible assumption) hb; have hzS := hS1.2.size; (try have hq0 : W.heap.size < w1.heap.size := by omega); (try have hq1 : W.heap.size + 1 < w1.heap.size := by omega); (try have hq2 := Nat.lt_of_succ_le hz); (try have zA1 := Z3.carry (by first | with_reducible exact Z3.new _ | with_reducible exact Z3.drew (Z3.new _)) hb); (try have zB1 := Z3.carry (by first | with_reducible exact Z3.up (Z3.new _) _ | with_reducible exact Z3.drew (Z3.up (Z3.new _) _)) hb); (try simp only [World.size_alloc] at zA1); (try simp only [World.size_alloc] at zB1)) | (go_at_call_of 19 (Value.agg #[.bool n', .int .i64 c', .int .i64 e']); refine (NormalDec_any _ _ _ _).mono ?_; rintro r w1 ⟨rfl, hb⟩; obtain ⟨hc, hf⟩ := bcell hb; have hz := hb.size; have hm := bmono hb; (try simp at hz); (try simp at hm); (try have hm2 := bmono2 (by with_reducible assumption) hb); have hS1 := keepA (by with_reducible assumption) hb; have hzS := hS1.2.size; (try have hq0 : W.heap.size < w1.heap.size := by omega); (try have hq1 : W.heap.size + 1 < w1.heap.size := by omega); (try have hq2 := Nat.lt_of_succ_le hz); (try have zA2 := Z3.carry (by first | with_reducible exact Z3.new _ | with_reducible exact Z3.drew (Z3.new _)) hb); (try have zB2 := Z3.carry (by first | with_reducible exact Z3.up (Z3.new _) _ | with_reducible exact Z3.drew (Z3.up (Z3.new _) _)) hb); (try have zA1o := Z3.carry (by first | with_reducible exact zA1 | with_reducible exact Z3.up zA1 _ | with_reducible exact Z3.drew (Z3.up zA1 _) | with_reducible exact Z3.drew zA1 | with_reducible exact Z3.up (Z3.up zA1 _) _ | with_reducible exact Z3.drew (Z3.up (Z3.up zA1 _) _)) hb); (try have zB1o := Z3.carry (by first | with_reducible exact zB1 | with_reducible exact Z3.up zB1 _ | with_reducible exact Z3.drew (Z3.up zB1 _) | with_reducible exact Z3.drew zB1 | with_reducible exact Z3.up (Z3.up zB1 _) _ | with_reducible exact Z3.drew (Z3.up (Z3.up zB1 _) _)) hb); (try simp only [World.size_alloc] at zA2); (try simp only [World.size_alloc] at zB2); (try simp only [World.size_alloc] at zA1o); (try simp only [World.size_alloc] at zB1o)))
    all_goals go_wp2_with fail
    all_goals go_meet
    all_goals go_light
    all_goals refine ⟨_, _, rfl, rfl, by omega, by omega, by omega, ?_⟩
    all_goals refine finG ?_ (by with_reducible assumption)
    all_goals first
      | with_reducible exact finA _ _ _ _ _ _
      | with_reducible exact finA' _ _ _ _ _ _
      | with_reducible exact finB (by with_reducible assumption) _ _ _ _ _ _
      | with_reducible exact finB' (by with_reducible assumption) _ _ _ _ _ _
      | with_reducible exact finC (by with_reducible assumption) (by with_reducible assumption) (by omega) _ _ _ _ _ _
  case rest =>
    obtain ⟨g, h, rfl, rfl, hgh, hg, hh, q0, q1, q2, p0, p1, p2, ⟨f0, f1, f2, f3, f4, f5⟩, hc2, hb2⟩ := hcut
    have hf2 := (bcell hb2).2
    have hB2 : Below w.heap.size w wc := hB.trans (hb2.mono (by omega))
    have hzc := hb2.size
    have hgh' : h ≠ g := fun e => hgh e.symm
    have hg1 : g ≠ w.heap.size + 1 := by omega
    have hh1 : h ≠ w.heap.size + 1 := by omega
    have hg2 : w.heap.size + 1 ≠ g := by omega
    have hh2 : w.heap.size + 1 ≠ h := by omega
    have HA := HA0.out
    by_cases z1 : (Fd.nd ⟨n, c, e⟩).c = 0
    · rw [if_pos z1] at HA
      have HB := Lib.hid HA
      clear HA
      have z1b : ((Fd.nd ⟨n, c, e⟩).c == 0) = true := by simpa using z1
      clear z1
      go_wp2
      exact bodyPost_ret (v := .tuple #[.agg #[.bool (Fd.nd ⟨n', c', e'⟩).n, .int .i64 (Fd.nd ⟨n', c', e'⟩).c, .int .i64 (Fd.nd ⟨n', c', e'⟩).e], .bool true]) (by simp [results, Try.results29, go_sem, *]) rfl ⟨by rw [HB.out], (by repeat (first | with_reducible exact Below.refl _ _ | with_reducible assumption | with_reducible refine Below.setCell ?_ (by first | omega | (simp; done) | (simp <;> omega)) _ | with_reducible refine below_drewN ?_ _ | with_reducible refine Below.drew ?_ | with_reducible refine Below.alloc ?_ (by first | omega | (simp; done) | (simp <;> omega)) _))⟩
    rw [if_neg z1] at HA
    have z1b : ((Fd.nd ⟨n, c, e⟩).c == 0) = false := by simpa using z1
    by_cases z2 : (Fd.nd ⟨n', c', e'⟩).c = 0
    · rw [if_pos z2] at HA
      have HB := Lib.hid HA
      clear HA
      have z2b : ((Fd.nd ⟨n', c', e'⟩).c == 0) = true := by simpa using z2
      clear z1 z2
      go_wp2
      exact bodyPost_ret (v := .tuple #[.agg #[.bool (Fd.nd ⟨n, c, e⟩).n, .int .i64 (Fd.nd ⟨n, c, e⟩).c, .int .i64 (Fd.nd ⟨n, c, e⟩).e], .bool true]) (by simp [results, Try.results29, go_sem, *]) rfl ⟨by rw [HB.out], (by repeat (first | with_reducible exact Below.refl _ _ | with_reducible assumption | with_reducible refine Below.setCell ?_ (by first | omega | (simp; done) | (simp <;> omega)) _ | with_reducible refine below_drewN ?_ _ | with_reducible refine Below.drew ?_ | with_reducible refine Below.alloc ?_ (by first | omega | (simp; done) | (simp <;> omega)) _))⟩
    rw [if_neg z2] at HA
    have z2b : ((Fd.nd ⟨n', c', e'⟩).c == 0) = false := by simpa using z2
    obtain ⟨a1, a2, a3, a4, a5⟩ := va.out
    obtain ⟨b1, b2, b3, b4, b5⟩ := vb.out
    clear z1 z2
    by_cases hlt : (Fd.nd ⟨n, c, e⟩).e < (Fd.nd ⟨n', c', e'⟩).e
    · rw [if_pos hlt] at HA
      unfold Fd.sumI at HA
      by_cases h9 : 9 < (Fd.nd ⟨n', c', e'⟩).e - (Fd.nd ⟨n, c, e⟩).e
      · rw [if_pos h9] at HA
        have HB := Lib.hid HA
        clear HA
        go_wp2
        exact bodyPost_ret (v := .tuple #[.agg #[.bool false, .int .i64 0, .int .i64 0], .bool false]) (by simp [results, Try.results29, go_sem, *]) rfl ⟨by rw [HB.out]; rfl, (by repeat (first | with_reducible exact Below.refl _ _ | with_reducible assumption | with_reducible refine Below.setCell ?_ (by first | omega | (simp; done) | (simp <;> omega)) _ | with_reducible refine below_drewN ?_ _ | with_reducible refine Below.drew ?_ | with_reducible refine Below.alloc ?_ (by first | omega | (simp; done) | (simp <;> omega)) _))⟩
      · rw [if_neg h9] at HA
        have HB := Lib.hid HA
        clear HA
        have hsg1 := sg_bd (Fd.nd ⟨n', c', e'⟩) b1
        have hsg2 := sg_bd (Fd.nd ⟨n, c, e⟩) a1
        have hP1 := Fd.p10_pos ((Fd.nd ⟨n', c', e'⟩).e - (Fd.nd ⟨n, c, e⟩).e)
        have hP2 := Fd.p10_le9 (k := (Fd.nd ⟨n', c', e'⟩).e - (Fd.nd ⟨n, c, e⟩).e) (by omega) (by omega)
        have hbd := sum_bd hsg1.1 hsg1.2 b1 b2 hP1 hP2
        have hbd2 := sum_bd hsg2.1 hsg2.2 a1 a2 (P := 1) (by omega) (by omega)
        have hix := fun W => index_pow ((Fd.nd ⟨n', c', e'⟩).e - (Fd.nd ⟨n, c, e⟩).e) (by omega) (by omega) W
        have hw1 : IntKind.i64.wrap (Fd.sgI (Fd.nd ⟨n', c', e'⟩) * (Fd.nd ⟨n', c', e'⟩).c) = Fd.sgI (Fd.nd ⟨n', c', e'⟩) * (Fd.nd ⟨n', c', e'⟩).c := IntWalk.i64_in _ (by omega)
        have hw2 : IntKind.i64.wrap (Fd.sgI (Fd.nd ⟨n', c', e'⟩) * (Fd.nd ⟨n', c', e'⟩).c * Fd.p10 ((Fd.nd ⟨n', c', e'⟩).e - (Fd.nd ⟨n, c, e⟩).e)) = Fd.sgI (Fd.nd ⟨n', c', e'⟩) * (Fd.nd ⟨n', c', e'⟩).c * Fd.p10 ((Fd.nd ⟨n', c', e'⟩).e - (Fd.nd ⟨n, c, e⟩).e) := IntWalk.i64_in _ (by omega)
        have hw3 : IntKind.i64.wrap (Fd.sgI (Fd.nd ⟨n, c, e⟩) * (Fd.nd ⟨n, c, e⟩).c) = Fd.sgI (Fd.nd ⟨n, c, e⟩) * (Fd.nd ⟨n, c, e⟩).c := IntWalk.i64_in _ (by omega)
        have hw4 : IntKind.i64.wrap (Fd.sgI (Fd.nd ⟨n', c', e'⟩) * (Fd.nd ⟨n', c', e'⟩).c * Fd.p10 ((Fd.nd ⟨n', c', e'⟩).e - (Fd.nd ⟨n, c, e⟩).e) + Fd.sgI (Fd.nd ⟨n, c, e⟩) * (Fd.nd ⟨n, c, e⟩).c) = Fd.sgI (Fd.nd ⟨n', c', e'⟩) * (Fd.nd ⟨n', c', e'⟩).c * Fd.p10 ((Fd.nd ⟨n', c', e'⟩).e - (Fd.nd ⟨n, c, e⟩).e) + Fd.sgI (Fd.nd ⟨n, c, e⟩) * (Fd.nd ⟨n, c, e⟩).c := IntWalk.i64_in _ (by omega)
        have hS1 : -2000000000000000000 ≤ Fd.sgI (Fd.nd ⟨n', c', e'⟩) * (Fd.nd ⟨n', c', e'⟩).c * Fd.p10 ((Fd.nd ⟨n', c', e'⟩).e - (Fd.nd ⟨n, c, e⟩).e) + Fd.sgI (Fd.nd ⟨n, c, e⟩) * (Fd.nd ⟨n, c, e⟩).c ∧ Fd.sgI (Fd.nd ⟨n', c', e'⟩) * (Fd.nd ⟨n', c', e'⟩).c * Fd.p10 ((Fd.nd ⟨n', c', e'⟩).e - (Fd.nd ⟨n, c, e⟩).e) + Fd.sgI (Fd.nd ⟨n, c, e⟩) * (Fd.nd ⟨n, c, e⟩).c ≤ 2000000000000000000 := by omega
        clear hbd hbd2 hsg1 hsg2
        go_upto_region 13 with fail
        have tg := set6 hgh' q0 q1 q2 (.bool (Fd.nd ⟨n', c', e'⟩).n) (.int .i64 (Fd.nd ⟨n', c', e'⟩).c) (.int .i64 (Fd.nd ⟨n', c', e'⟩).e) (.bool (Fd.nd ⟨n, c, e⟩).n) (.int .i64 (Fd.nd ⟨n, c, e⟩).c) (.int .i64 (Fd.nd ⟨n, c, e⟩).e)
        have th := set3 (w1 := ((wc.setCell ⟨g, 0, none⟩ (.bool (Fd.nd ⟨n', c', e'⟩).n)).setCell ⟨g, 1, none⟩ (.int .i64 (Fd.nd ⟨n', c', e'⟩).c)).setCell ⟨g, 2, none⟩ (.int .i64 (Fd.nd ⟨n', c', e'⟩).e)) (b := h) (by simp [go_sem, *]; rfl) (by simp [go_sem, *]; rfl) (by simp [go_sem, *]; rfl) (.bool (Fd.nd ⟨n, c, e⟩).n) (.int .i64 (Fd.nd ⟨n, c, e⟩).c) (.int .i64 (Fd.nd ⟨n, c, e⟩).e)
        obtain ⟨tg0, tg1, tg2⟩ := tg
        obtain ⟨th0, th1, th2⟩ := th
        have hbT : Below W.heap.size W ((((((wc.setCell ⟨g, 0, none⟩ (.bool (Fd.nd ⟨n', c', e'⟩).n)).setCell ⟨g, 1, none⟩ (.int .i64 (Fd.nd ⟨n', c', e'⟩).c)).setCell ⟨g, 2, none⟩ (.int .i64 (Fd.nd ⟨n', c', e'⟩).e)).setCell ⟨h, 0, none⟩ (.bool (Fd.nd ⟨n, c, e⟩).n)).setCell ⟨h, 1, none⟩ (.int .i64 (Fd.nd ⟨n, c, e⟩).c)).setCell ⟨h, 2, none⟩ (.int .i64 (Fd.nd ⟨n, c, e⟩).e)) := (((((hb2.setCell hg _).setCell hg _).setCell hg _).setCell hh _).setCell hh _).setCell hh _
        have hcT : ∀ b o, b < W.heap.size → World.cell? ((((((wc.setCell ⟨g, 0, none⟩ (.bool (Fd.nd ⟨n', c', e'⟩).n)).setCell ⟨g, 1, none⟩ (.int .i64 (Fd.nd ⟨n', c', e'⟩).c)).setCell ⟨g, 2, none⟩ (.int .i64 (Fd.nd ⟨n', c', e'⟩).e)).setCell ⟨h, 0, none⟩ (.bool (Fd.nd ⟨n, c, e⟩).n)).setCell ⟨h, 1, none⟩ (.int .i64 (Fd.nd ⟨n, c, e⟩).c)).setCell ⟨h, 2, none⟩ (.int .i64 (Fd.nd ⟨n, c, e⟩).e)) ⟨b, o, none⟩ = W.cell? ⟨b, o, none⟩ := fun b o h => hbT.cell (p := ⟨b, o, none⟩) h
        have hfT : ∀ b o, b < W.heap.size → World.frozen? ((((((wc.setCell ⟨g, 0, none⟩ (.bool (Fd.nd ⟨n', c', e'⟩).n)).setCell ⟨g, 1, none⟩ (.int .i64 (Fd.nd ⟨n', c', e'⟩).c)).setCell ⟨g, 2, none⟩ (.int .i64 (Fd.nd ⟨n', c', e'⟩).e)).setCell ⟨h, 0, none⟩ (.bool (Fd.nd ⟨n, c, e⟩).n)).setCell ⟨h, 1, none⟩ (.int .i64 (Fd.nd ⟨n, c, e⟩).c)).setCell ⟨h, 2, none⟩ (.int .i64 (Fd.nd ⟨n, c, e⟩).e)) ⟨b, o, none⟩ = W.frozen? ⟨b, o, none⟩ := fun b o h => hbT.frozen (p := ⟨b, o, none⟩) h
        generalize hX : (((((wc.setCell ⟨g, 0, none⟩ (.bool (Fd.nd ⟨n', c', e'⟩).n)).setCell ⟨g, 1, none⟩ (.int .i64 (Fd.nd ⟨n', c', e'⟩).c)).setCell ⟨g, 2, none⟩ (.int .i64 (Fd.nd ⟨n', c', e'⟩).e)).setCell ⟨h, 0, none⟩ (.bool (Fd.nd ⟨n, c, e⟩).n)).setCell ⟨h, 1, none⟩ (.int .i64 (Fd.nd ⟨n, c, e⟩).c)).setCell ⟨h, 2, none⟩ (.int .i64 (Fd.nd ⟨n, c, e⟩).e) = X
        rw [hX] at tg0 tg1 tg2 th0 th1 th2
        simp only [hX] at hcT hfT hbT
        clear hX q0 q1 q2 p0 p1 p2 f0 f1 f2 f3 f4 f5 hf2
        have hbX := hbT
        have hzX := hbX.size
        have hgX : g < X.heap.size := World.block_lt_of_cell? _ _ tg0
        have hhX : h < X.heap.size := World.block_lt_of_cell? _ _ th0
        have hwX : w.heap.size + 1 + 1 < X.heap.size := by omega
        have hBX : Below w.heap.size w X := hB.trans (hbX.mono (by omega))
        clear hB2 hb2 hc2 hzc
        go_cut [9] (fun s9 wx => s9 = .int .i64 (Fd.sgI (Fd.nd ⟨n', c', e'⟩) * (Fd.nd ⟨n', c', e'⟩).c * Fd.p10 ((Fd.nd ⟨n', c', e'⟩).e - (Fd.nd ⟨n, c, e⟩).e) + Fd.sgI (Fd.nd ⟨n, c, e⟩) * (Fd.nd ⟨n, c, e⟩).c) ∧ (∀ b o, b < X.heap.size → wx.cell? ⟨b, o, none⟩ = X.cell? ⟨b, o, none⟩) ∧ Below X.heap.size X wx)
        case first =>
          have hS0 : (∀ b o, b < X.heap.size → X.cell? ⟨b, o, none⟩ = X.cell? ⟨b, o, none⟩) ∧ Below X.heap.size X X := ⟨fun _ _ _ => rfl, Below.refl _ _⟩; go_region_held3 (fun w_ => (∀ b o, b < X.heap.size → w_.cell? ⟨b, o, none⟩ = X.cell? ⟨b, o, none⟩) ∧ Below X.heap.size X w_) (repeat (first | with_reducible assumption | with_reducible refine keepD ?_ | with_reducible refine keepL ?_ _ | with_reducible refine keepS ?_ (by first | omega | (simp; done) | (simp <;> omega)) _ | with_reducible exact keepA (by with_reducible assumption) hb)) (first | (go_at_call 59; refine (sign_any _ _ _ _).mono ?_; rintro r w1 ⟨rfl, hb⟩; obtain ⟨hc, hf⟩ := bcell hb; have hz := hb.size; have hm := bmono hb; (try simp at hz); (try simp at hm); (try have hm2 := bmono2 (by with_reducible assumption) hb); have hS1 := keepA (by with_reducible assumption) hb; have hzS := hS1.2.size; (try have hq0 : X.heap.size < w1.heap.size := by omega); (try have hq1 : X.heap.size + 1 < w1.heap.size := by omega); (try have hq2 := Nat.lt_of_succ_le hz)) | (go_at_call 66; refine (powers_any _).mono ?_; rintro r w1 ⟨rfl, hb⟩; obtain ⟨hc, hf⟩ := bcell hb; have hz := hb.size; have hm := bmono hb; (try simp at hz); (try simp at hm); (try have hm2 := bmono2 (by with_reducible assumption) hb); have hS1 := keepA (by with_reducible assumption) hb; have hzS := hS1.2.size; (try have hq0 : X.heap.size < w1.heap.size := by omega); (try have hq1 : X.heap.size + 1 < w1.heap.size := by omega); (try have hq2 := Nat.lt_of_succ_le hz)))
          all_goals go_wp2_with fail
          all_goals go_meet
          all_goals exact ⟨rfl, by with_reducible assumption⟩
        obtain ⟨rfl, hc, hb⟩ := hcut
        have hf := (bcell hb).2
        have hB := hBX.trans (hb.mono (by omega))
        have hz := hb.size
        have hz1 : w.heap.size + 1 + 1 < wc.heap.size := by omega
        clear hBX hb
        clear hw1 hw2 hw3 hw4 hix
        have e1 := Fd.fromS_c (Fd.sgI (Fd.nd ⟨n', c', e'⟩) * (Fd.nd ⟨n', c', e'⟩).c * Fd.p10 ((Fd.nd ⟨n', c', e'⟩).e - (Fd.nd ⟨n, c, e⟩).e) + Fd.sgI (Fd.nd ⟨n, c, e⟩) * (Fd.nd ⟨n, c, e⟩).c) (Fd.nd ⟨n, c, e⟩).e
        have e2 := hfs (Fd.nd ⟨n, c, e⟩).e w hS1
        have e3 : -24 ≤ (Fd.fromS (Fd.sgI (Fd.nd ⟨n', c', e'⟩) * (Fd.nd ⟨n', c', e'⟩).c * Fd.p10 ((Fd.nd ⟨n', c', e'⟩).e - (Fd.nd ⟨n, c, e⟩).e) + Fd.sgI (Fd.nd ⟨n, c, e⟩) * (Fd.nd ⟨n, c, e⟩).c) (Fd.nd ⟨n, c, e⟩).e).e := by show -24 ≤ (Fd.nd ⟨n, c, e⟩).e; omega
        have e4 : (Fd.fromS (Fd.sgI (Fd.nd ⟨n', c', e'⟩) * (Fd.nd ⟨n', c', e'⟩).c * Fd.p10 ((Fd.nd ⟨n', c', e'⟩).e - (Fd.nd ⟨n, c, e⟩).e) + Fd.sgI (Fd.nd ⟨n, c, e⟩) * (Fd.nd ⟨n, c, e⟩).c) (Fd.nd ⟨n, c, e⟩).e).e ≤ 24 := by show (Fd.nd ⟨n, c, e⟩).e ≤ 24; omega
        go_wp2_with (first | (go_at_call 67; refine (fromSigned_any _ _ _ (by omega)).mono ?_; rintro r w1 ⟨rfl, hb⟩; obtain ⟨hc, hf⟩ := bcell hb; have hB : Below w.heap.size w w1 := (by refine Below.trans ?_ (hb.mono (by first | omega | (simp; done) | (simp <;> omega))); repeat (first | with_reducible exact Below.refl _ _ | with_reducible assumption | with_reducible refine Below.setCell ?_ (by first | omega | (simp; done) | (simp <;> omega)) _ | with_reducible refine below_drewN ?_ _ | with_reducible refine Below.drew ?_ | with_reducible refine Below.alloc ?_ (by first | omega | (simp; done) | (simp <;> omega)) _)); have hz := hb.size; (try simp at hz); (try have hz0 : w.heap.size < w1.heap.size := by omega); (try have hz1 : w.heap.size + 1 < w1.heap.size := by omega); (try have hz2 : w.heap.size + 1 + 1 < w1.heap.size := by omega)) | (go_at_call 58; refine (fitted_any _ _ _ _ e1 e2 e3 e4).mono ?_; rintro r w1 ⟨rfl, hb⟩; obtain ⟨hc, hf⟩ := bcell hb; have hB : Below w.heap.size w w1 := (by refine Below.trans ?_ (hb.mono (by first | omega | (simp; done) | (simp <;> omega))); repeat (first | with_reducible exact Below.refl _ _ | with_reducible assumption | with_reducible refine Below.setCell ?_ (by first | omega | (simp; done) | (simp <;> omega)) _ | with_reducible refine below_drewN ?_ _ | with_reducible refine Below.drew ?_ | with_reducible refine Below.alloc ?_ (by first | omega | (simp; done) | (simp <;> omega)) _)); have hz := hb.size; (try simp at hz); (try have hz0 : w.heap.size < w1.heap.size := by omega); (try have hz1 : w.heap.size + 1 < w1.heap.size := by omega); (try have hz2 : w.heap.size + 1 + 1 < w1.heap.size := by omega)))
        exact bodyPost_ret (v := .tuple #[.agg #[.bool (Fd.fit1 (Fd.fromS (Fd.sgI (Fd.nd ⟨n', c', e'⟩) * (Fd.nd ⟨n', c', e'⟩).c * Fd.p10 ((Fd.nd ⟨n', c', e'⟩).e - (Fd.nd ⟨n, c, e⟩).e) + Fd.sgI (Fd.nd ⟨n, c, e⟩) * (Fd.nd ⟨n, c, e⟩).c) (Fd.nd ⟨n, c, e⟩).e)).1.n, .int .i64 (Fd.fit1 (Fd.fromS (Fd.sgI (Fd.nd ⟨n', c', e'⟩) * (Fd.nd ⟨n', c', e'⟩).c * Fd.p10 ((Fd.nd ⟨n', c', e'⟩).e - (Fd.nd ⟨n, c, e⟩).e) + Fd.sgI (Fd.nd ⟨n, c, e⟩) * (Fd.nd ⟨n, c, e⟩).c) (Fd.nd ⟨n, c, e⟩).e)).1.c, .int .i64 (Fd.fit1 (Fd.fromS (Fd.sgI (Fd.nd ⟨n', c', e'⟩) * (Fd.nd ⟨n', c', e'⟩).c * Fd.p10 ((Fd.nd ⟨n', c', e'⟩).e - (Fd.nd ⟨n, c, e⟩).e) + Fd.sgI (Fd.nd ⟨n, c, e⟩) * (Fd.nd ⟨n, c, e⟩).c) (Fd.nd ⟨n, c, e⟩).e)).1.e], .bool (Fd.fit1 (Fd.fromS (Fd.sgI (Fd.nd ⟨n', c', e'⟩) * (Fd.nd ⟨n', c', e'⟩).c * Fd.p10 ((Fd.nd ⟨n', c', e'⟩).e - (Fd.nd ⟨n, c, e⟩).e) + Fd.sgI (Fd.nd ⟨n, c, e⟩) * (Fd.nd ⟨n, c, e⟩).c) (Fd.nd ⟨n, c, e⟩).e)).2]) (by simp [results, Try.results29, go_sem, *]) rfl ⟨by rw [HB.out], (by repeat (first | with_reducible exact Below.refl _ _ | with_reducible assumption | with_reducible refine Below.setCell ?_ (by first | omega | (simp; done) | (simp <;> omega)) _ | with_reducible refine below_drewN ?_ _ | with_reducible refine Below.drew ?_ | with_reducible refine Below.alloc ?_ (by first | omega | (simp; done) | (simp <;> omega)) _))⟩
    · rw [if_neg hlt] at HA
      unfold Fd.sumI at HA
      by_cases h9 : 9 < (Fd.nd ⟨n, c, e⟩).e - (Fd.nd ⟨n', c', e'⟩).e
      · rw [if_pos h9] at HA
        have HB := Lib.hid HA
        clear HA
        go_wp2
        exact bodyPost_ret (v := .tuple #[.agg #[.bool false, .int .i64 0, .int .i64 0], .bool false]) (by simp [results, Try.results29, go_sem, *]) rfl ⟨by rw [HB.out]; rfl, (by repeat (first | with_reducible exact Below.refl _ _ | with_reducible assumption | with_reducible refine Below.setCell ?_ (by first | omega | (simp; done) | (simp <;> omega)) _ | with_reducible refine below_drewN ?_ _ | with_reducible refine Below.drew ?_ | with_reducible refine Below.alloc ?_ (by first | omega | (simp; done) | (simp <;> omega)) _))⟩
      · rw [if_neg h9] at HA
        have HB := Lib.hid HA
        clear HA
        have hsg1 := sg_bd (Fd.nd ⟨n, c, e⟩) a1
        have hsg2 := sg_bd (Fd.nd ⟨n', c', e'⟩) b1
        have hP1 := Fd.p10_pos ((Fd.nd ⟨n, c, e⟩).e - (Fd.nd ⟨n', c', e'⟩).e)
        have hP2 := Fd.p10_le9 (k := (Fd.nd ⟨n, c, e⟩).e - (Fd.nd ⟨n', c', e'⟩).e) (by omega) (by omega)
        have hbd := sum_bd hsg1.1 hsg1.2 a1 a2 hP1 hP2
        have hbd2 := sum_bd hsg2.1 hsg2.2 b1 b2 (P := 1) (by omega) (by omega)
        have hix := fun W => index_pow ((Fd.nd ⟨n, c, e⟩).e - (Fd.nd ⟨n', c', e'⟩).e) (by omega) (by omega) W
        have hw1 : IntKind.i64.wrap (Fd.sgI (Fd.nd ⟨n, c, e⟩) * (Fd.nd ⟨n, c, e⟩).c) = Fd.sgI (Fd.nd ⟨n, c, e⟩) * (Fd.nd ⟨n, c, e⟩).c := IntWalk.i64_in _ (by omega)
        have hw2 : IntKind.i64.wrap (Fd.sgI (Fd.nd ⟨n, c, e⟩) * (Fd.nd ⟨n, c, e⟩).c * Fd.p10 ((Fd.nd ⟨n, c, e⟩).e - (Fd.nd ⟨n', c', e'⟩).e)) = Fd.sgI (Fd.nd ⟨n, c, e⟩) * (Fd.nd ⟨n, c, e⟩).c * Fd.p10 ((Fd.nd ⟨n, c, e⟩).e - (Fd.nd ⟨n', c', e'⟩).e) := IntWalk.i64_in _ (by omega)
        have hw3 : IntKind.i64.wrap (Fd.sgI (Fd.nd ⟨n', c', e'⟩) * (Fd.nd ⟨n', c', e'⟩).c) = Fd.sgI (Fd.nd ⟨n', c', e'⟩) * (Fd.nd ⟨n', c', e'⟩).c := IntWalk.i64_in _ (by omega)
        have hw4 : IntKind.i64.wrap (Fd.sgI (Fd.nd ⟨n, c, e⟩) * (Fd.nd ⟨n, c, e⟩).c * Fd.p10 ((Fd.nd ⟨n, c, e⟩).e - (Fd.nd ⟨n', c', e'⟩).e) + Fd.sgI (Fd.nd ⟨n', c', e'⟩) * (Fd.nd ⟨n', c', e'⟩).c) = Fd.sgI (Fd.nd ⟨n, c, e⟩) * (Fd.nd ⟨n, c, e⟩).c * Fd.p10 ((Fd.nd ⟨n, c, e⟩).e - (Fd.nd ⟨n', c', e'⟩).e) + Fd.sgI (Fd.nd ⟨n', c', e'⟩) * (Fd.nd ⟨n', c', e'⟩).c := IntWalk.i64_in _ (by omega)
        have hS1 : -2000000000000000000 ≤ Fd.sgI (Fd.nd ⟨n, c, e⟩) * (Fd.nd ⟨n, c, e⟩).c * Fd.p10 ((Fd.nd ⟨n, c, e⟩).e - (Fd.nd ⟨n', c', e'⟩).e) + Fd.sgI (Fd.nd ⟨n', c', e'⟩) * (Fd.nd ⟨n', c', e'⟩).c ∧ Fd.sgI (Fd.nd ⟨n, c, e⟩) * (Fd.nd ⟨n, c, e⟩).c * Fd.p10 ((Fd.nd ⟨n, c, e⟩).e - (Fd.nd ⟨n', c', e'⟩).e) + Fd.sgI (Fd.nd ⟨n', c', e'⟩) * (Fd.nd ⟨n', c', e'⟩).c ≤ 2000000000000000000 := by omega
        clear hbd hbd2 hsg1 hsg2
        go_upto_region 13 with fail
        have tg0 := q0; have tg1 := q1; have tg2 := q2; have th0 := p0; have th1 := p1; have th2 := p2
        have hbX := hb2; have hzX := hb2.size; have hcT := hc2; have hfT := hf2
        clear q0 q1 q2 p0 p1 p2 f0 f1 f2 f3 f4 f5 hf2
        generalize wc = X at *
        have hgX : g < X.heap.size := World.block_lt_of_cell? _ _ tg0
        have hhX : h < X.heap.size := World.block_lt_of_cell? _ _ th0
        have hwX : w.heap.size + 1 + 1 < X.heap.size := by omega
        have hBX : Below w.heap.size w X := hB.trans (hbX.mono (by omega))
        clear hB2 hb2 hc2 hzc
        go_cut [9] (fun s9 wx => s9 = .int .i64 (Fd.sgI (Fd.nd ⟨n, c, e⟩) * (Fd.nd ⟨n, c, e⟩).c * Fd.p10 ((Fd.nd ⟨n, c, e⟩).e - (Fd.nd ⟨n', c', e'⟩).e) + Fd.sgI (Fd.nd ⟨n', c', e'⟩) * (Fd.nd ⟨n', c', e'⟩).c) ∧ (∀ b o, b < X.heap.size → wx.cell? ⟨b, o, none⟩ = X.cell? ⟨b, o, none⟩) ∧ Below X.heap.size X wx)
        case first =>
          have hS0 : (∀ b o, b < X.heap.size → X.cell? ⟨b, o, none⟩ = X.cell? ⟨b, o, none⟩) ∧ Below X.heap.size X X := ⟨fun _ _ _ => rfl, Below.refl _ _⟩; go_region_held3 (fun w_ => (∀ b o, b < X.heap.size → w_.cell? ⟨b, o, none⟩ = X.cell? ⟨b, o, none⟩) ∧ Below X.heap.size X w_) (repeat (first | with_reducible assumption | with_reducible refine keepD ?_ | with_reducible refine keepL ?_ _ | with_reducible refine keepS ?_ (by first | omega | (simp; done) | (simp <;> omega)) _ | with_reducible exact keepA (by with_reducible assumption) hb)) (first | (go_at_call 59; refine (sign_any _ _ _ _).mono ?_; rintro r w1 ⟨rfl, hb⟩; obtain ⟨hc, hf⟩ := bcell hb; have hz := hb.size; have hm := bmono hb; (try simp at hz); (try simp at hm); (try have hm2 := bmono2 (by with_reducible assumption) hb); have hS1 := keepA (by with_reducible assumption) hb; have hzS := hS1.2.size; (try have hq0 : X.heap.size < w1.heap.size := by omega); (try have hq1 : X.heap.size + 1 < w1.heap.size := by omega); (try have hq2 := Nat.lt_of_succ_le hz)) | (go_at_call 66; refine (powers_any _).mono ?_; rintro r w1 ⟨rfl, hb⟩; obtain ⟨hc, hf⟩ := bcell hb; have hz := hb.size; have hm := bmono hb; (try simp at hz); (try simp at hm); (try have hm2 := bmono2 (by with_reducible assumption) hb); have hS1 := keepA (by with_reducible assumption) hb; have hzS := hS1.2.size; (try have hq0 : X.heap.size < w1.heap.size := by omega); (try have hq1 : X.heap.size + 1 < w1.heap.size := by omega); (try have hq2 := Nat.lt_of_succ_le hz)))
          all_goals go_wp2_with fail
          all_goals go_meet
          all_goals exact ⟨rfl, by with_reducible assumption⟩
        obtain ⟨rfl, hc, hb⟩ := hcut
        have hf := (bcell hb).2
        have hB := hBX.trans (hb.mono (by omega))
        have hz := hb.size
        have hz1 : w.heap.size + 1 + 1 < wc.heap.size := by omega
        clear hBX hb
        clear hw1 hw2 hw3 hw4 hix
        have e1 := Fd.fromS_c (Fd.sgI (Fd.nd ⟨n, c, e⟩) * (Fd.nd ⟨n, c, e⟩).c * Fd.p10 ((Fd.nd ⟨n, c, e⟩).e - (Fd.nd ⟨n', c', e'⟩).e) + Fd.sgI (Fd.nd ⟨n', c', e'⟩) * (Fd.nd ⟨n', c', e'⟩).c) (Fd.nd ⟨n', c', e'⟩).e
        have e2 := hfs (Fd.nd ⟨n', c', e'⟩).e w hS1
        have e3 : -24 ≤ (Fd.fromS (Fd.sgI (Fd.nd ⟨n, c, e⟩) * (Fd.nd ⟨n, c, e⟩).c * Fd.p10 ((Fd.nd ⟨n, c, e⟩).e - (Fd.nd ⟨n', c', e'⟩).e) + Fd.sgI (Fd.nd ⟨n', c', e'⟩) * (Fd.nd ⟨n', c', e'⟩).c) (Fd.nd ⟨n', c', e'⟩).e).e := by show -24 ≤ (Fd.nd ⟨n', c', e'⟩).e; omega
        have e4 : (Fd.fromS (Fd.sgI (Fd.nd ⟨n, c, e⟩) * (Fd.nd ⟨n, c, e⟩).c * Fd.p10 ((Fd.nd ⟨n, c, e⟩).e - (Fd.nd ⟨n', c', e'⟩).e) + Fd.sgI (Fd.nd ⟨n', c', e'⟩) * (Fd.nd ⟨n', c', e'⟩).c) (Fd.nd ⟨n', c', e'⟩).e).e ≤ 24 := by show (Fd.nd ⟨n', c', e'⟩).e ≤ 24; omega
        go_wp2_with (first | (go_at_call 67; refine (fromSigned_any _ _ _ (by omega)).mono ?_; rintro r w1 ⟨rfl, hb⟩; obtain ⟨hc, hf⟩ := bcell hb; have hB : Below w.heap.size w w1 := (by refine Below.trans ?_ (hb.mono (by first | omega | (simp; done) | (simp <;> omega))); repeat (first | with_reducible exact Below.refl _ _ | with_reducible assumption | with_reducible refine Below.setCell ?_ (by first | omega | (simp; done) | (simp <;> omega)) _ | with_reducible refine below_drewN ?_ _ | with_reducible refine Below.drew ?_ | with_reducible refine Below.alloc ?_ (by first | omega | (simp; done) | (simp <;> omega)) _)); have hz := hb.size; (try simp at hz); (try have hz0 : w.heap.size < w1.heap.size := by omega); (try have hz1 : w.heap.size + 1 < w1.heap.size := by omega); (try have hz2 : w.heap.size + 1 + 1 < w1.heap.size := by omega)) | (go_at_call 58; refine (fitted_any _ _ _ _ e1 e2 e3 e4).mono ?_; rintro r w1 ⟨rfl, hb⟩; obtain ⟨hc, hf⟩ := bcell hb; have hB : Below w.heap.size w w1 := (by refine Below.trans ?_ (hb.mono (by first | omega | (simp; done) | (simp <;> omega))); repeat (first | with_reducible exact Below.refl _ _ | with_reducible assumption | with_reducible refine Below.setCell ?_ (by first | omega | (simp; done) | (simp <;> omega)) _ | with_reducible refine below_drewN ?_ _ | with_reducible refine Below.drew ?_ | with_reducible refine Below.alloc ?_ (by first | omega | (simp; done) | (simp <;> omega)) _)); have hz := hb.size; (try simp at hz); (try have hz0 : w.heap.size < w1.heap.size := by omega); (try have hz1 : w.heap.size + 1 < w1.heap.size := by omega); (try have hz2 : w.heap.size + 1 + 1 < w1.heap.size := by omega)))
        exact bodyPost_ret (v := .tuple #[.agg #[.bool (Fd.fit1 (Fd.fromS (Fd.sgI (Fd.nd ⟨n, c, e⟩) * (Fd.nd ⟨n, c, e⟩).c * Fd.p10 ((Fd.nd ⟨n, c, e⟩).e - (Fd.nd ⟨n', c', e'⟩).e) + Fd.sgI (Fd.nd ⟨n', c', e'⟩) * (Fd.nd ⟨n', c', e'⟩).c) (Fd.nd ⟨n', c', e'⟩).e)).1.n, .int .i64 (Fd.fit1 (Fd.fromS (Fd.sgI (Fd.nd ⟨n, c, e⟩) * (Fd.nd ⟨n, c, e⟩).c * Fd.p10 ((Fd.nd ⟨n, c, e⟩).e - (Fd.nd ⟨n', c', e'⟩).e) + Fd.sgI (Fd.nd ⟨n', c', e'⟩) * (Fd.nd ⟨n', c', e'⟩).c) (Fd.nd ⟨n', c', e'⟩).e)).1.c, .int .i64 (Fd.fit1 (Fd.fromS (Fd.sgI (Fd.nd ⟨n, c, e⟩) * (Fd.nd ⟨n, c, e⟩).c * Fd.p10 ((Fd.nd ⟨n, c, e⟩).e - (Fd.nd ⟨n', c', e'⟩).e) + Fd.sgI (Fd.nd ⟨n', c', e'⟩) * (Fd.nd ⟨n', c', e'⟩).c) (Fd.nd ⟨n', c', e'⟩).e)).1.e], .bool (Fd.fit1 (Fd.fromS (Fd.sgI (Fd.nd ⟨n, c, e⟩) * (Fd.nd ⟨n, c, e⟩).c * Fd.p10 ((Fd.nd ⟨n, c, e⟩).e - (Fd.nd ⟨n', c', e'⟩).e) + Fd.sgI (Fd.nd ⟨n', c', e'⟩) * (Fd.nd ⟨n', c', e'⟩).c) (Fd.nd ⟨n', c', e'⟩).e)).2]) (by simp [results, Try.results29, go_sem, *]) rfl ⟨by rw [HB.out], (by repeat (first | with_reducible exact Below.refl _ _ | with_reducible assumption | with_reducible refine Below.setCell ?_ (by first | omega | (simp; done) | (simp <;> omega)) _ | with_reducible refine below_drewN ?_ _ | with_reducible refine Below.drew ?_ | with_reducible refine Below.alloc ?_ (by first | omega | (simp; done) | (simp <;> omega)) _))⟩
end Go.Proofs.Ytehocgedlepajaa
