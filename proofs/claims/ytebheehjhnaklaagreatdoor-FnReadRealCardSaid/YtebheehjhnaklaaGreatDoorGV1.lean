import Derived.Test.YtebheehjhnaklaaGreatDoorG6
import Derived.Test.YtebheehjhnaklaaGreatDoorG72
import Derived.Test.YtebheehjhnaklaaGreatDoorG73
import Derived.Test.YtebheehjhnaklaaGreatDoorG13
import Derived.Test.YtebheehjhnaklaaGreatDoorN2
import Derived.Test.YtebheehjhnaklaaGreatDoorC7
import Derived.Test.YtebheehjhnaklaaGreatDoorZ6
import Derived.Test.YtebheehjhnaklaaGreatDoorPl2
import Derived.Test.YtebheehjhnaklaaGreatDoorTL
import Derived.Test.YtebheehjhnaklaaGreatDoorU1
import Derived.Test.YtebheehjhnaklaaGreatDoorZ3
namespace Go.Proofs.YtebheehjhnaklaaGreatDoor
open Go Go.RowKit
set_option maxRecDepth 100000 in
set_option maxHeartbeats 8000000 in
theorem amountOf_none (f : ByteArray) (al si : Int) (alt ze : Bool) (wi gr pr : Int) (n : Bool) (c e : Int) (A B T : List UInt8) (w : World) (hT : PT w)
    (kc : ∀ W, PT W → Calls Tryz.prog 74 #[.agg #[.bool n, .int .i64 c, .int .i64 e]] W fun r w' => r = .returned (.agg #[.string ⟨A.toArray⟩, .string ⟨B.toArray⟩, .string ⟨T.toArray⟩]) ∧ Below W.heap.size W w') :
    Calls Tryz.prog 148 #[.agg #[.string f, .int .i64 al, .int .i64 si, .bool alt, .bool ze, .int .i64 wi, .int .i64 gr, .int .i64 pr, .string ⟨#[]⟩], .agg #[.bool n, .int .i64 c, .int .i64 e]] w fun r w' => r = .returned (.agg #[.string ⟨A.toArray⟩, .string ⟨B.toArray⟩, .string ⟨T.toArray⟩]) ∧ Below w.heap.size w w' := by
  have ksh := fun W => showings_any f al si alt ze wi gr pr ⟨#[]⟩ W
  have hlk : ∀ (W' : World) (M : Nat), W'.heap[M]? = some (.map (shE (.agg #[.string f, .int .i64 al, .int .i64 si, .bool alt, .bool ze, .int .i64 wi, .int .i64 gr, .int .i64 pr, .string ⟨#[]⟩])) 7) → (Instr.lookup 164 (.map (some M)) (.string ⟨#[]⟩) false).run Tryz.prog W' = .ok (.func (.func 74) #[] #[]) W' :=
    fun W' M h => run_lookup_hit _ _ _ M 7 _ _ 0 _ mapT strT h (by rfl)
  have KSH := Lib.hid ksh; have HLK := Lib.hid hlk; have KC := Lib.hid kc
  clear ksh hlk kc
  have za := ((C9.new w (.string f) (.int .i64 al) (.int .i64 si) (.bool alt) (.bool ze) (.int .i64 wi) (.int .i64 gr) (.int .i64 pr) (.string ⟨#[]⟩) 38).up (.cells #[.bool n, .int .i64 c, .int .i64 e] 24)).up (.cells #[.string ⟨#[]⟩, .string ⟨#[]⟩, .string ⟨#[]⟩] 69)
  have zd : C3 (((w.alloc (.cells #[.string f, .int .i64 al, .int .i64 si, .bool alt, .bool ze, .int .i64 wi, .int .i64 gr, .int .i64 pr, .string ⟨#[]⟩] 38)).alloc (.cells #[.bool n, .int .i64 c, .int .i64 e] 24)).alloc (.cells #[.string ⟨#[]⟩, .string ⟨#[]⟩, .string ⟨#[]⟩] 69)) (w.heap.size + 1) (.bool n) (.int .i64 c) (.int .i64 e) := by
    have h := C3.new (w.alloc (.cells #[.string f, .int .i64 al, .int .i64 si, .bool alt, .bool ze, .int .i64 wi, .int .i64 gr, .int .i64 pr, .string ⟨#[]⟩] 38)) (.bool n) (.int .i64 c) (.int .i64 e) 24
    rw [show (w.alloc (.cells #[.string f, .int .i64 al, .int .i64 si, .bool alt, .bool ze, .int .i64 wi, .int .i64 gr, .int .i64 pr, .string ⟨#[]⟩] 38)).heap.size = w.heap.size + 1 by simp] at h
    exact h.up _
  have zr : C3 (((w.alloc (.cells #[.string f, .int .i64 al, .int .i64 si, .bool alt, .bool ze, .int .i64 wi, .int .i64 gr, .int .i64 pr, .string ⟨#[]⟩] 38)).alloc (.cells #[.bool n, .int .i64 c, .int .i64 e] 24)).alloc (.cells #[.string ⟨#[]⟩, .string ⟨#[]⟩, .string ⟨#[]⟩] 69)) (w.heap.size + 1 + 1) (.string ⟨#[]⟩) (.string ⟨#[]⟩) (.string ⟨#[]⟩) := by
    have h := C3.new ((w.alloc (.cells #[.string f, .int .i64 al, .int .i64 si, .bool alt, .bool ze, .int .i64 wi, .int .i64 gr, .int .i64 pr, .string ⟨#[]⟩] 38)).alloc (.cells #[.bool n, .int .i64 c, .int .i64 e] 24)) (.string ⟨#[]⟩) (.string ⟨#[]⟩) (.string ⟨#[]⟩) 69
    rw [show ((w.alloc (.cells #[.string f, .int .i64 al, .int .i64 si, .bool alt, .bool ze, .int .i64 wi, .int .i64 gr, .int .i64 pr, .string ⟨#[]⟩] 38)).alloc (.cells #[.bool n, .int .i64 c, .int .i64 e] 24)).heap.size = w.heap.size + 1 + 1 by simp] at h
    exact h
  have hB : Below w.heap.size w (((w.alloc (.cells #[.string f, .int .i64 al, .int .i64 si, .bool alt, .bool ze, .int .i64 wi, .int .i64 gr, .int .i64 pr, .string ⟨#[]⟩] 38)).alloc (.cells #[.bool n, .int .i64 c, .int .i64 e] 24)).alloc (.cells #[.string ⟨#[]⟩, .string ⟨#[]⟩, .string ⟨#[]⟩] 69)) := (((Below.refl _ _).alloc (Nat.le_refl _) _).alloc (by simp) _).alloc (by simp; omega) _
  go_enter Tryz.func148, Tryz.ntmps148
  go_upto_region 1 with (fail)
  generalize hW : (((w.alloc (.cells #[.string f, .int .i64 al, .int .i64 si, .bool alt, .bool ze, .int .i64 wi, .int .i64 gr, .int .i64 pr, .string ⟨#[]⟩] 38)).alloc (.cells #[.bool n, .int .i64 c, .int .i64 e] 24)).alloc (.cells #[.string ⟨#[]⟩, .string ⟨#[]⟩, .string ⟨#[]⟩] 69)) = W at za zd zr hB ⊢
  clear hW
  have hwz := hB.size
  have zaa := za
  obtain ⟨a0, a1, a2, a3, a4, a5, a6, a7, a8, af, az⟩ := zaa
  obtain ⟨e0, e1, e2, e3, e4, e5, e6⟩ := zd
  have zrr := zr
  obtain ⟨t0, t1, t2, t3, t4, t5, t6⟩ := zrr
  have qw0 : w.heap.size < W.heap.size := by omega
  have qw1 : w.heap.size + 1 < W.heap.size := by omega
  have hS0 : (∀ b o, b < W.heap.size → W.cell? ⟨b, o, none⟩ = W.cell? ⟨b, o, none⟩) ∧ Below W.heap.size W W := ⟨fun _ _ _ => rfl, Below.refl _ _⟩
  go_cut [5] (fun s5 wx => ∃ g : Nat, s5 = .pointer (some ⟨g, 0, none⟩) ∧ w.heap.size + 1 + 1 < g ∧ C3 wx g (.string ⟨A.toArray⟩) (.string ⟨B.toArray⟩) (.string ⟨T.toArray⟩) ∧ C9 wx w.heap.size (.string f) (.int .i64 al) (.int .i64 si) (.bool alt) (.bool ze) (.int .i64 wi) (.int .i64 gr) (.int .i64 pr) (.string ⟨#[]⟩) ∧ C3 wx (w.heap.size + 1 + 1) (.string ⟨#[]⟩) (.string ⟨#[]⟩) (.string ⟨#[]⟩) ∧ Below w.heap.size w wx)
  case first =>
    go_region_held3 (fun w_ => (∀ b o, b < W.heap.size → w_.cell? ⟨b, o, none⟩ = W.cell? ⟨b, o, none⟩) ∧ Below W.heap.size W w_) (repeat (first | with_reducible assumption | with_reducible refine keepD ?_ | with_reducible refine keepL ?_ _ | with_reducible refine keepS ?_ (by first | omega | (simp; done) | (simp <;> omega)) _ | with_reducible exact keepA (by with_reducible assumption) hb)) (first | (go_at_call 204; (with_reducible refine Calls.mono (KSH.out _) ?_); rintro r w1 ⟨M, rfl, hb, hMz, hM⟩; (first | (have zN := C3.carry (by first | with_reducible exact zn | with_reducible exact zn.up _ | with_reducible exact C3.drew zn) hb; clear zn; have zn := zN; clear zN; have zz := zn; obtain ⟨n0, n1, n2, n3, n4, n5, n6⟩ := zz) | ((with_reducible have zn := C3.carry (C3.new _ _ _ _ _) hb); have zz := zn; obtain ⟨n0, n1, n2, n3, n4, n5, n6⟩ := zz) | ((with_reducible have zn := C3.carry (C3.drew (C3.new _ _ _ _ _)) hb); have zz := zn; obtain ⟨n0, n1, n2, n3, n4, n5, n6⟩ := zz) | skip); have hS1 := keepA (by repeat (first | with_reducible assumption | with_reducible refine keepD ?_ | with_reducible refine keepL ?_ _ | with_reducible refine keepS ?_ (by first | omega | (simp; omega)) _)) hb; have hzS := hS1.2.size; have hz := hb.size; (try simp at hz); have hl1 := HLK.out w1 M hM; have hl2 := fun o => HLK.out (w1.alloc o) M (heap_up hM); have hl3 := HLK.out w1.drew M hM; have hl4 := fun o => HLK.out (w1.alloc o).drew M (heap_up hM); clear hM hMz) | (go_at_call 74; (with_reducible refine Calls.mono (KC.out _ (PT.onS hT hB (by repeat (first | with_reducible assumption | with_reducible refine keepD ?_ | with_reducible refine keepL ?_ _ | with_reducible refine keepS ?_ (by first | omega | (simp; omega)) _)) hwz)) ?_); rintro r w1 ⟨rfl, hb⟩; (first | (have zN := C3.carry (by first | with_reducible exact zn | with_reducible exact zn.up _ | with_reducible exact C3.drew zn) hb; clear zn; have zn := zN; clear zN; have zz := zn; obtain ⟨n0, n1, n2, n3, n4, n5, n6⟩ := zz) | ((with_reducible have zn := C3.carry (C3.new _ _ _ _ _) hb); have zz := zn; obtain ⟨n0, n1, n2, n3, n4, n5, n6⟩ := zz) | ((with_reducible have zn := C3.carry (C3.drew (C3.new _ _ _ _ _)) hb); have zz := zn; obtain ⟨n0, n1, n2, n3, n4, n5, n6⟩ := zz) | skip); have hS1 := keepA (by repeat (first | with_reducible assumption | with_reducible refine keepD ?_ | with_reducible refine keepL ?_ _ | with_reducible refine keepS ?_ (by first | omega | (simp; omega)) _)) hb; have hzS := hS1.2.size; have hz := hb.size; (try simp at hz)))
    all_goals (repeat (first | go_values | go_skip | go_guarded | go_step | go_upon))
    all_goals go_meet
    all_goals refine ⟨_, rfl, by omega, ?_, za.carry (kBel (by repeat (first | with_reducible assumption | with_reducible refine keepD ?_ | with_reducible refine keepL ?_ _ | with_reducible refine keepS ?_ (by first | omega | (simp; omega)) _))), zr.carry (kBel (by repeat (first | with_reducible assumption | with_reducible refine keepD ?_ | with_reducible refine keepL ?_ _ | with_reducible refine keepS ?_ (by first | omega | (simp; omega)) _))), hB.trans ((kBel (by repeat (first | with_reducible assumption | with_reducible refine keepD ?_ | with_reducible refine keepL ?_ _ | with_reducible refine keepS ?_ (by first | omega | (simp; omega)) _))).mono hwz)⟩
    all_goals first | exact C3.new _ _ _ _ _ | exact C3.setAll zn _ _ _
  case rest =>
    clear hS0 a0 a1 a2 a3 a4 a5 a6 a7 a8 af az e0 e1 e2 e3 e4 e5 e6 t0 t1 t2 t3 t4 t5 t6 za zr hB
    obtain ⟨g, rfl, hg, zg, za, zr, hB⟩ := hcut
    obtain ⟨a0, a1, a2, a3, a4, a5, a6, a7, a8, af, az⟩ := za
    obtain ⟨t0, t1, t2, t3, t4, t5, t6⟩ := zr
    obtain ⟨g0, g1, g2, g3, g4, g5, g6⟩ := zg
    have hgn : g ≠ w.heap.size + 1 + 1 := by omega
    have hgn2 : w.heap.size + 1 + 1 ≠ g := by omega
    have hgz := hB.size
    (repeat (first | go_values | go_skip | go_guarded | go_step | go_upon))
    all_goals refine bodyPost_ret (v := .agg #[.string ⟨A.toArray⟩, .string ⟨B.toArray⟩, .string ⟨T.toArray⟩]) ?_ rfl ⟨rfl, (by repeat (first | with_reducible exact Below.refl _ _ | with_reducible assumption | with_reducible refine Below.setCell ?_ (by first | omega | (simp; done) | (simp <;> omega)) _ | with_reducible refine below_drewN ?_ _ | with_reducible refine Below.drew ?_ | with_reducible refine Below.alloc ?_ (by first | omega | (simp; done) | (simp <;> omega)) _))⟩
    all_goals simp [results, Tryz.results148, go_sem, *]
set_option maxRecDepth 100000 in
set_option maxHeartbeats 8000000 in
theorem amountOf_f (f : ByteArray) (al si : Int) (alt ze : Bool) (wi gr pr : Int) (n : Bool) (c e : Int) (A B T : List UInt8) (w : World) (hT : PT w)
    (kc : ∀ W, PT W → Calls Tryz.prog 249 #[.agg #[.string f, .int .i64 al, .int .i64 si, .bool alt, .bool ze, .int .i64 wi, .int .i64 gr, .int .i64 pr, .string ⟨#[102]⟩], .agg #[.bool n, .int .i64 c, .int .i64 e]] W fun r w' => r = .returned (.agg #[.string ⟨A.toArray⟩, .string ⟨B.toArray⟩, .string ⟨T.toArray⟩]) ∧ Below W.heap.size W w') :
    Calls Tryz.prog 148 #[.agg #[.string f, .int .i64 al, .int .i64 si, .bool alt, .bool ze, .int .i64 wi, .int .i64 gr, .int .i64 pr, .string ⟨#[102]⟩], .agg #[.bool n, .int .i64 c, .int .i64 e]] w fun r w' => r = .returned (.agg #[.string ⟨A.toArray⟩, .string ⟨B.toArray⟩, .string ⟨T.toArray⟩]) ∧ Below w.heap.size w w' := by
  have ksh := fun W => showings_any f al si alt ze wi gr pr ⟨#[102]⟩ W
  have hlk : ∀ (W' : World) (M : Nat), W'.heap[M]? = some (.map (shE (.agg #[.string f, .int .i64 al, .int .i64 si, .bool alt, .bool ze, .int .i64 wi, .int .i64 gr, .int .i64 pr, .string ⟨#[102]⟩])) 7) → (Instr.lookup 164 (.map (some M)) (.string ⟨#[102]⟩) false).run Tryz.prog W' = .ok (.func (.func 249) #[.agg #[.string f, .int .i64 al, .int .i64 si, .bool alt, .bool ze, .int .i64 wi, .int .i64 gr, .int .i64 pr, .string ⟨#[102]⟩]] #[]) W' :=
    fun W' M h => run_lookup_hit _ _ _ M 7 _ _ 1 _ mapT strT h (by rfl)
  have KSH := Lib.hid ksh; have HLK := Lib.hid hlk; have KC := Lib.hid kc
  clear ksh hlk kc
  have za := ((C9.new w (.string f) (.int .i64 al) (.int .i64 si) (.bool alt) (.bool ze) (.int .i64 wi) (.int .i64 gr) (.int .i64 pr) (.string ⟨#[102]⟩) 38).up (.cells #[.bool n, .int .i64 c, .int .i64 e] 24)).up (.cells #[.string ⟨#[]⟩, .string ⟨#[]⟩, .string ⟨#[]⟩] 69)
  have zd : C3 (((w.alloc (.cells #[.string f, .int .i64 al, .int .i64 si, .bool alt, .bool ze, .int .i64 wi, .int .i64 gr, .int .i64 pr, .string ⟨#[102]⟩] 38)).alloc (.cells #[.bool n, .int .i64 c, .int .i64 e] 24)).alloc (.cells #[.string ⟨#[]⟩, .string ⟨#[]⟩, .string ⟨#[]⟩] 69)) (w.heap.size + 1) (.bool n) (.int .i64 c) (.int .i64 e) := by
    have h := C3.new (w.alloc (.cells #[.string f, .int .i64 al, .int .i64 si, .bool alt, .bool ze, .int .i64 wi, .int .i64 gr, .int .i64 pr, .string ⟨#[102]⟩] 38)) (.bool n) (.int .i64 c) (.int .i64 e) 24
    rw [show (w.alloc (.cells #[.string f, .int .i64 al, .int .i64 si, .bool alt, .bool ze, .int .i64 wi, .int .i64 gr, .int .i64 pr, .string ⟨#[102]⟩] 38)).heap.size = w.heap.size + 1 by simp] at h
    exact h.up _
  have zr : C3 (((w.alloc (.cells #[.string f, .int .i64 al, .int .i64 si, .bool alt, .bool ze, .int .i64 wi, .int .i64 gr, .int .i64 pr, .string ⟨#[102]⟩] 38)).alloc (.cells #[.bool n, .int .i64 c, .int .i64 e] 24)).alloc (.cells #[.string ⟨#[]⟩, .string ⟨#[]⟩, .string ⟨#[]⟩] 69)) (w.heap.size + 1 + 1) (.string ⟨#[]⟩) (.string ⟨#[]⟩) (.string ⟨#[]⟩) := by
    have h := C3.new ((w.alloc (.cells #[.string f, .int .i64 al, .int .i64 si, .bool alt, .bool ze, .int .i64 wi, .int .i64 gr, .int .i64 pr, .string ⟨#[102]⟩] 38)).alloc (.cells #[.bool n, .int .i64 c, .int .i64 e] 24)) (.string ⟨#[]⟩) (.string ⟨#[]⟩) (.string ⟨#[]⟩) 69
    rw [show ((w.alloc (.cells #[.string f, .int .i64 al, .int .i64 si, .bool alt, .bool ze, .int .i64 wi, .int .i64 gr, .int .i64 pr, .string ⟨#[102]⟩] 38)).alloc (.cells #[.bool n, .int .i64 c, .int .i64 e] 24)).heap.size = w.heap.size + 1 + 1 by simp] at h
    exact h
  have hB : Below w.heap.size w (((w.alloc (.cells #[.string f, .int .i64 al, .int .i64 si, .bool alt, .bool ze, .int .i64 wi, .int .i64 gr, .int .i64 pr, .string ⟨#[102]⟩] 38)).alloc (.cells #[.bool n, .int .i64 c, .int .i64 e] 24)).alloc (.cells #[.string ⟨#[]⟩, .string ⟨#[]⟩, .string ⟨#[]⟩] 69)) := (((Below.refl _ _).alloc (Nat.le_refl _) _).alloc (by simp) _).alloc (by simp; omega) _
  go_enter Tryz.func148, Tryz.ntmps148
  go_upto_region 1 with (fail)
  generalize hW : (((w.alloc (.cells #[.string f, .int .i64 al, .int .i64 si, .bool alt, .bool ze, .int .i64 wi, .int .i64 gr, .int .i64 pr, .string ⟨#[102]⟩] 38)).alloc (.cells #[.bool n, .int .i64 c, .int .i64 e] 24)).alloc (.cells #[.string ⟨#[]⟩, .string ⟨#[]⟩, .string ⟨#[]⟩] 69)) = W at za zd zr hB ⊢
  clear hW
  have hwz := hB.size
  have zaa := za
  obtain ⟨a0, a1, a2, a3, a4, a5, a6, a7, a8, af, az⟩ := zaa
  obtain ⟨e0, e1, e2, e3, e4, e5, e6⟩ := zd
  have zrr := zr
  obtain ⟨t0, t1, t2, t3, t4, t5, t6⟩ := zrr
  have qw0 : w.heap.size < W.heap.size := by omega
  have qw1 : w.heap.size + 1 < W.heap.size := by omega
  have hS0 : (∀ b o, b < W.heap.size → W.cell? ⟨b, o, none⟩ = W.cell? ⟨b, o, none⟩) ∧ Below W.heap.size W W := ⟨fun _ _ _ => rfl, Below.refl _ _⟩
  go_cut [5] (fun s5 wx => ∃ g : Nat, s5 = .pointer (some ⟨g, 0, none⟩) ∧ w.heap.size + 1 + 1 < g ∧ C3 wx g (.string ⟨A.toArray⟩) (.string ⟨B.toArray⟩) (.string ⟨T.toArray⟩) ∧ C9 wx w.heap.size (.string f) (.int .i64 al) (.int .i64 si) (.bool alt) (.bool ze) (.int .i64 wi) (.int .i64 gr) (.int .i64 pr) (.string ⟨#[102]⟩) ∧ C3 wx (w.heap.size + 1 + 1) (.string ⟨#[]⟩) (.string ⟨#[]⟩) (.string ⟨#[]⟩) ∧ Below w.heap.size w wx)
  case first =>
    go_region_held3 (fun w_ => (∀ b o, b < W.heap.size → w_.cell? ⟨b, o, none⟩ = W.cell? ⟨b, o, none⟩) ∧ Below W.heap.size W w_) (repeat (first | with_reducible assumption | with_reducible refine keepD ?_ | with_reducible refine keepL ?_ _ | with_reducible refine keepS ?_ (by first | omega | (simp; done) | (simp <;> omega)) _ | with_reducible exact keepA (by with_reducible assumption) hb)) (first | (go_at_call 204; (with_reducible refine Calls.mono (KSH.out _) ?_); rintro r w1 ⟨M, rfl, hb, hMz, hM⟩; (first | (have zN := C3.carry (by first | with_reducible exact zn | with_reducible exact zn.up _ | with_reducible exact C3.drew zn) hb; clear zn; have zn := zN; clear zN; have zz := zn; obtain ⟨n0, n1, n2, n3, n4, n5, n6⟩ := zz) | ((with_reducible have zn := C3.carry (C3.new _ _ _ _ _) hb); have zz := zn; obtain ⟨n0, n1, n2, n3, n4, n5, n6⟩ := zz) | ((with_reducible have zn := C3.carry (C3.drew (C3.new _ _ _ _ _)) hb); have zz := zn; obtain ⟨n0, n1, n2, n3, n4, n5, n6⟩ := zz) | skip); have hS1 := keepA (by repeat (first | with_reducible assumption | with_reducible refine keepD ?_ | with_reducible refine keepL ?_ _ | with_reducible refine keepS ?_ (by first | omega | (simp; omega)) _)) hb; have hzS := hS1.2.size; have hz := hb.size; (try simp at hz); have hl1 := HLK.out w1 M hM; have hl2 := fun o => HLK.out (w1.alloc o) M (heap_up hM); have hl3 := HLK.out w1.drew M hM; have hl4 := fun o => HLK.out (w1.alloc o).drew M (heap_up hM); clear hM hMz) | (go_at_call 249; (with_reducible refine Calls.mono (KC.out _ (PT.onS hT hB (by repeat (first | with_reducible assumption | with_reducible refine keepD ?_ | with_reducible refine keepL ?_ _ | with_reducible refine keepS ?_ (by first | omega | (simp; omega)) _)) hwz)) ?_); rintro r w1 ⟨rfl, hb⟩; (first | (have zN := C3.carry (by first | with_reducible exact zn | with_reducible exact zn.up _ | with_reducible exact C3.drew zn) hb; clear zn; have zn := zN; clear zN; have zz := zn; obtain ⟨n0, n1, n2, n3, n4, n5, n6⟩ := zz) | ((with_reducible have zn := C3.carry (C3.new _ _ _ _ _) hb); have zz := zn; obtain ⟨n0, n1, n2, n3, n4, n5, n6⟩ := zz) | ((with_reducible have zn := C3.carry (C3.drew (C3.new _ _ _ _ _)) hb); have zz := zn; obtain ⟨n0, n1, n2, n3, n4, n5, n6⟩ := zz) | skip); have hS1 := keepA (by repeat (first | with_reducible assumption | with_reducible refine keepD ?_ | with_reducible refine keepL ?_ _ | with_reducible refine keepS ?_ (by first | omega | (simp; omega)) _)) hb; have hzS := hS1.2.size; have hz := hb.size; (try simp at hz)))
    all_goals (repeat (first | go_values | go_skip | go_guarded | go_step | go_upon))
    all_goals go_meet
    all_goals refine ⟨_, rfl, by omega, ?_, za.carry (kBel (by repeat (first | with_reducible assumption | with_reducible refine keepD ?_ | with_reducible refine keepL ?_ _ | with_reducible refine keepS ?_ (by first | omega | (simp; omega)) _))), zr.carry (kBel (by repeat (first | with_reducible assumption | with_reducible refine keepD ?_ | with_reducible refine keepL ?_ _ | with_reducible refine keepS ?_ (by first | omega | (simp; omega)) _))), hB.trans ((kBel (by repeat (first | with_reducible assumption | with_reducible refine keepD ?_ | with_reducible refine keepL ?_ _ | with_reducible refine keepS ?_ (by first | omega | (simp; omega)) _))).mono hwz)⟩
    all_goals first | exact C3.new _ _ _ _ _ | exact C3.setAll zn _ _ _
  case rest =>
    clear hS0 a0 a1 a2 a3 a4 a5 a6 a7 a8 af az e0 e1 e2 e3 e4 e5 e6 t0 t1 t2 t3 t4 t5 t6 za zr hB
    obtain ⟨g, rfl, hg, zg, za, zr, hB⟩ := hcut
    obtain ⟨a0, a1, a2, a3, a4, a5, a6, a7, a8, af, az⟩ := za
    obtain ⟨t0, t1, t2, t3, t4, t5, t6⟩ := zr
    obtain ⟨g0, g1, g2, g3, g4, g5, g6⟩ := zg
    have hgn : g ≠ w.heap.size + 1 + 1 := by omega
    have hgn2 : w.heap.size + 1 + 1 ≠ g := by omega
    have hgz := hB.size
    (repeat (first | go_values | go_skip | go_guarded | go_step | go_upon))
    all_goals refine bodyPost_ret (v := .agg #[.string ⟨A.toArray⟩, .string ⟨B.toArray⟩, .string ⟨T.toArray⟩]) ?_ rfl ⟨rfl, (by repeat (first | with_reducible exact Below.refl _ _ | with_reducible assumption | with_reducible refine Below.setCell ?_ (by first | omega | (simp; done) | (simp <;> omega)) _ | with_reducible refine below_drewN ?_ _ | with_reducible refine Below.drew ?_ | with_reducible refine Below.alloc ?_ (by first | omega | (simp; done) | (simp <;> omega)) _))⟩
    all_goals simp [results, Tryz.results148, go_sem, *]
end Go.Proofs.YtebheehjhnaklaaGreatDoor
namespace Go.Proofs.YtebheehjhnaklaaGreatDoor
open Go Go.RowKit
set_option maxRecDepth 100000 in
set_option maxHeartbeats 8000000 in
theorem amountOf_G (f : ByteArray) (al si : Int) (alt ze : Bool) (wi gr pr : Int) (n : Bool) (c e : Int) (A B T T2 : List UInt8) (w : World) (hT : PT w)
    (kc : ∀ W, PT W → Calls Tryz.prog 252 #[.agg #[.string f, .int .i64 al, .int .i64 si, .bool alt, .bool ze, .int .i64 wi, .int .i64 gr, .int .i64 pr, .string ⟨#[71]⟩], .agg #[.bool n, .int .i64 c, .int .i64 e]] W fun r w' => r = .returned (.agg #[.string ⟨A.toArray⟩, .string ⟨B.toArray⟩, .string ⟨T.toArray⟩]) ∧ Below W.heap.size W w')
    (ku : ∀ W, Calls Tryz.prog 203 #[.string ⟨T.toArray⟩] W fun r w' => r = .returned (.string ⟨T2.toArray⟩) ∧ Below W.heap.size W w') :
    Calls Tryz.prog 148 #[.agg #[.string f, .int .i64 al, .int .i64 si, .bool alt, .bool ze, .int .i64 wi, .int .i64 gr, .int .i64 pr, .string ⟨#[71]⟩], .agg #[.bool n, .int .i64 c, .int .i64 e]] w fun r w' => r = .returned (.agg #[.string ⟨A.toArray⟩, .string ⟨B.toArray⟩, .string ⟨T2.toArray⟩]) ∧ Below w.heap.size w w' := by
  have ksh := fun W => showings_any f al si alt ze wi gr pr ⟨#[71]⟩ W
  have hlk : ∀ (W' : World) (M : Nat), W'.heap[M]? = some (.map (shE (.agg #[.string f, .int .i64 al, .int .i64 si, .bool alt, .bool ze, .int .i64 wi, .int .i64 gr, .int .i64 pr, .string ⟨#[71]⟩])) 7) → (Instr.lookup 164 (.map (some M)) (.string ⟨#[71]⟩) false).run Tryz.prog W' = .ok (.func (.func 252) #[.agg #[.string f, .int .i64 al, .int .i64 si, .bool alt, .bool ze, .int .i64 wi, .int .i64 gr, .int .i64 pr, .string ⟨#[71]⟩]] #[]) W' :=
    fun W' M h => run_lookup_hit _ _ _ M 7 _ _ 6 _ mapT strT h (by rfl)
  have KSH := Lib.hid ksh; have HLK := Lib.hid hlk; have KC := Lib.hid kc; have KU := Lib.hid ku
  clear ksh hlk kc ku
  have za := ((C9.new w (.string f) (.int .i64 al) (.int .i64 si) (.bool alt) (.bool ze) (.int .i64 wi) (.int .i64 gr) (.int .i64 pr) (.string ⟨#[71]⟩) 38).up (.cells #[.bool n, .int .i64 c, .int .i64 e] 24)).up (.cells #[.string ⟨#[]⟩, .string ⟨#[]⟩, .string ⟨#[]⟩] 69)
  have zd : C3 (((w.alloc (.cells #[.string f, .int .i64 al, .int .i64 si, .bool alt, .bool ze, .int .i64 wi, .int .i64 gr, .int .i64 pr, .string ⟨#[71]⟩] 38)).alloc (.cells #[.bool n, .int .i64 c, .int .i64 e] 24)).alloc (.cells #[.string ⟨#[]⟩, .string ⟨#[]⟩, .string ⟨#[]⟩] 69)) (w.heap.size + 1) (.bool n) (.int .i64 c) (.int .i64 e) := by
    have h := C3.new (w.alloc (.cells #[.string f, .int .i64 al, .int .i64 si, .bool alt, .bool ze, .int .i64 wi, .int .i64 gr, .int .i64 pr, .string ⟨#[71]⟩] 38)) (.bool n) (.int .i64 c) (.int .i64 e) 24
    rw [show (w.alloc (.cells #[.string f, .int .i64 al, .int .i64 si, .bool alt, .bool ze, .int .i64 wi, .int .i64 gr, .int .i64 pr, .string ⟨#[71]⟩] 38)).heap.size = w.heap.size + 1 by simp] at h
    exact h.up _
  have zr : C3 (((w.alloc (.cells #[.string f, .int .i64 al, .int .i64 si, .bool alt, .bool ze, .int .i64 wi, .int .i64 gr, .int .i64 pr, .string ⟨#[71]⟩] 38)).alloc (.cells #[.bool n, .int .i64 c, .int .i64 e] 24)).alloc (.cells #[.string ⟨#[]⟩, .string ⟨#[]⟩, .string ⟨#[]⟩] 69)) (w.heap.size + 1 + 1) (.string ⟨#[]⟩) (.string ⟨#[]⟩) (.string ⟨#[]⟩) := by
    have h := C3.new ((w.alloc (.cells #[.string f, .int .i64 al, .int .i64 si, .bool alt, .bool ze, .int .i64 wi, .int .i64 gr, .int .i64 pr, .string ⟨#[71]⟩] 38)).alloc (.cells #[.bool n, .int .i64 c, .int .i64 e] 24)) (.string ⟨#[]⟩) (.string ⟨#[]⟩) (.string ⟨#[]⟩) 69
    rw [show ((w.alloc (.cells #[.string f, .int .i64 al, .int .i64 si, .bool alt, .bool ze, .int .i64 wi, .int .i64 gr, .int .i64 pr, .string ⟨#[71]⟩] 38)).alloc (.cells #[.bool n, .int .i64 c, .int .i64 e] 24)).heap.size = w.heap.size + 1 + 1 by simp] at h
    exact h
  have hB : Below w.heap.size w (((w.alloc (.cells #[.string f, .int .i64 al, .int .i64 si, .bool alt, .bool ze, .int .i64 wi, .int .i64 gr, .int .i64 pr, .string ⟨#[71]⟩] 38)).alloc (.cells #[.bool n, .int .i64 c, .int .i64 e] 24)).alloc (.cells #[.string ⟨#[]⟩, .string ⟨#[]⟩, .string ⟨#[]⟩] 69)) := (((Below.refl _ _).alloc (Nat.le_refl _) _).alloc (by simp) _).alloc (by simp; omega) _
  go_enter Tryz.func148, Tryz.ntmps148
  go_upto_region 1 with (fail)
  generalize hW : (((w.alloc (.cells #[.string f, .int .i64 al, .int .i64 si, .bool alt, .bool ze, .int .i64 wi, .int .i64 gr, .int .i64 pr, .string ⟨#[71]⟩] 38)).alloc (.cells #[.bool n, .int .i64 c, .int .i64 e] 24)).alloc (.cells #[.string ⟨#[]⟩, .string ⟨#[]⟩, .string ⟨#[]⟩] 69)) = W at za zd zr hB ⊢
  clear hW
  have hwz := hB.size
  have zaa := za
  obtain ⟨a0, a1, a2, a3, a4, a5, a6, a7, a8, af, az⟩ := zaa
  obtain ⟨e0, e1, e2, e3, e4, e5, e6⟩ := zd
  have zrr := zr
  obtain ⟨t0, t1, t2, t3, t4, t5, t6⟩ := zrr
  have qw0 : w.heap.size < W.heap.size := by omega
  have qw1 : w.heap.size + 1 < W.heap.size := by omega
  have hS0 : (∀ b o, b < W.heap.size → W.cell? ⟨b, o, none⟩ = W.cell? ⟨b, o, none⟩) ∧ Below W.heap.size W W := ⟨fun _ _ _ => rfl, Below.refl _ _⟩
  go_cut [5] (fun s5 wx => ∃ g : Nat, s5 = .pointer (some ⟨g, 0, none⟩) ∧ w.heap.size + 1 + 1 < g ∧ C3 wx g (.string ⟨A.toArray⟩) (.string ⟨B.toArray⟩) (.string ⟨T.toArray⟩) ∧ C9 wx w.heap.size (.string f) (.int .i64 al) (.int .i64 si) (.bool alt) (.bool ze) (.int .i64 wi) (.int .i64 gr) (.int .i64 pr) (.string ⟨#[71]⟩) ∧ C3 wx (w.heap.size + 1 + 1) (.string ⟨#[]⟩) (.string ⟨#[]⟩) (.string ⟨#[]⟩) ∧ Below w.heap.size w wx)
  case first =>
    go_region_held3 (fun w_ => (∀ b o, b < W.heap.size → w_.cell? ⟨b, o, none⟩ = W.cell? ⟨b, o, none⟩) ∧ Below W.heap.size W w_) (repeat (first | with_reducible assumption | with_reducible refine keepD ?_ | with_reducible refine keepL ?_ _ | with_reducible refine keepS ?_ (by first | omega | (simp; done) | (simp <;> omega)) _ | with_reducible exact keepA (by with_reducible assumption) hb)) (first | (go_at_call 204; (with_reducible refine Calls.mono (KSH.out _) ?_); rintro r w1 ⟨M, rfl, hb, hMz, hM⟩; (first | (have zN := C3.carry (by first | with_reducible exact zn | with_reducible exact zn.up _ | with_reducible exact C3.drew zn) hb; clear zn; have zn := zN; clear zN; have zz := zn; obtain ⟨n0, n1, n2, n3, n4, n5, n6⟩ := zz) | ((with_reducible have zn := C3.carry (C3.new _ _ _ _ _) hb); have zz := zn; obtain ⟨n0, n1, n2, n3, n4, n5, n6⟩ := zz) | ((with_reducible have zn := C3.carry (C3.drew (C3.new _ _ _ _ _)) hb); have zz := zn; obtain ⟨n0, n1, n2, n3, n4, n5, n6⟩ := zz) | skip); have hS1 := keepA (by repeat (first | with_reducible assumption | with_reducible refine keepD ?_ | with_reducible refine keepL ?_ _ | with_reducible refine keepS ?_ (by first | omega | (simp; omega)) _)) hb; have hzS := hS1.2.size; have hz := hb.size; (try simp at hz); have hl1 := HLK.out w1 M hM; have hl2 := fun o => HLK.out (w1.alloc o) M (heap_up hM); have hl3 := HLK.out w1.drew M hM; have hl4 := fun o => HLK.out (w1.alloc o).drew M (heap_up hM); clear hM hMz) | (go_at_call 252; (with_reducible refine Calls.mono (KC.out _ (PT.onS hT hB (by repeat (first | with_reducible assumption | with_reducible refine keepD ?_ | with_reducible refine keepL ?_ _ | with_reducible refine keepS ?_ (by first | omega | (simp; omega)) _)) hwz)) ?_); rintro r w1 ⟨rfl, hb⟩; (first | (have zN := C3.carry (by first | with_reducible exact zn | with_reducible exact zn.up _ | with_reducible exact C3.drew zn) hb; clear zn; have zn := zN; clear zN; have zz := zn; obtain ⟨n0, n1, n2, n3, n4, n5, n6⟩ := zz) | ((with_reducible have zn := C3.carry (C3.new _ _ _ _ _) hb); have zz := zn; obtain ⟨n0, n1, n2, n3, n4, n5, n6⟩ := zz) | ((with_reducible have zn := C3.carry (C3.drew (C3.new _ _ _ _ _)) hb); have zz := zn; obtain ⟨n0, n1, n2, n3, n4, n5, n6⟩ := zz) | skip); have hS1 := keepA (by repeat (first | with_reducible assumption | with_reducible refine keepD ?_ | with_reducible refine keepL ?_ _ | with_reducible refine keepS ?_ (by first | omega | (simp; omega)) _)) hb; have hzS := hS1.2.size; have hz := hb.size; (try simp at hz)))
    all_goals (repeat (first | go_values | go_skip | go_guarded | go_step | go_upon))
    all_goals go_meet
    all_goals refine ⟨_, rfl, by omega, ?_, za.carry (kBel (by repeat (first | with_reducible assumption | with_reducible refine keepD ?_ | with_reducible refine keepL ?_ _ | with_reducible refine keepS ?_ (by first | omega | (simp; omega)) _))), zr.carry (kBel (by repeat (first | with_reducible assumption | with_reducible refine keepD ?_ | with_reducible refine keepL ?_ _ | with_reducible refine keepS ?_ (by first | omega | (simp; omega)) _))), hB.trans ((kBel (by repeat (first | with_reducible assumption | with_reducible refine keepD ?_ | with_reducible refine keepL ?_ _ | with_reducible refine keepS ?_ (by first | omega | (simp; omega)) _))).mono hwz)⟩
    all_goals first | exact C3.new _ _ _ _ _ | exact C3.setAll zn _ _ _
  case rest =>
    clear hS0 a0 a1 a2 a3 a4 a5 a6 a7 a8 af az e0 e1 e2 e3 e4 e5 e6 t0 t1 t2 t3 t4 t5 t6 za zr hB
    obtain ⟨g, rfl, hg, zg, za, zr, hB⟩ := hcut
    obtain ⟨a0, a1, a2, a3, a4, a5, a6, a7, a8, af, az⟩ := za
    obtain ⟨t0, t1, t2, t3, t4, t5, t6⟩ := zr
    obtain ⟨g0, g1, g2, g3, g4, g5, g6⟩ := zg
    have hgn : g ≠ w.heap.size + 1 + 1 := by omega
    have hgn2 : w.heap.size + 1 + 1 ≠ g := by omega
    have hgz := hB.size
    repeat (first | (go_at_call 203; (with_reducible refine Calls.mono (KU.out _) ?_); rintro r w1 ⟨rfl, hb⟩; (have hB1 := hB.trans (hb.mono hB.size)); (have zrN := C3.carry (show C3 _ (w.heap.size + 1 + 1) (.string ⟨#[]⟩) (.string ⟨#[]⟩) (.string ⟨#[]⟩) from ⟨t0, t1, t2, t3, t4, t5, t6⟩) hb); (have zgN := C3.carry (show C3 _ g _ _ _ from ⟨g0, g1, g2, g3, g4, g5, g6⟩) hb); clear t0 t1 t2 t3 t4 t5 t6 g0 g1 g2 g3 g4 g5 g6 hB; obtain ⟨t0, t1, t2, t3, t4, t5, t6⟩ := zrN; obtain ⟨g0, g1, g2, g3, g4, g5, g6⟩ := zgN; have hB := hB1; (try dsimp only)) | go_values | go_skip | go_guarded | go_step | go_upon)
    all_goals refine bodyPost_ret (v := .agg #[.string ⟨A.toArray⟩, .string ⟨B.toArray⟩, .string ⟨T2.toArray⟩]) ?_ rfl ⟨rfl, (by repeat (first | with_reducible exact Below.refl _ _ | with_reducible assumption | with_reducible refine Below.setCell ?_ (by first | omega | (simp; done) | (simp <;> omega)) _ | with_reducible refine below_drewN ?_ _ | with_reducible refine Below.drew ?_ | with_reducible refine Below.alloc ?_ (by first | omega | (simp; done) | (simp <;> omega)) _))⟩
    all_goals simp [results, Tryz.results148, go_sem, *]
end Go.Proofs.YtebheehjhnaklaaGreatDoor
namespace Go.Proofs.YtebheehjhnaklaaGreatDoor
open Go Go.RowKit
/-- what both sides make of an amount -/
def AmB (f : ByteArray) (al si : Int) (alt ze : Bool) (wi gr pr : Int) (t : List UInt8) (n : Bool) (c e : Int) (A B T : List UInt8) : Prop :=
  AmL A B T ∧ (∀ W, PT W → Calls Tryz.prog 148 #[.agg #[.string f, .int .i64 al, .int .i64 si, .bool alt, .bool ze, .int .i64 wi, .int .i64 gr, .int .i64 pr, .string ⟨t.toArray⟩], .agg #[.bool n, .int .i64 c, .int .i64 e]] W fun r w' => r = .returned (.agg #[.string ⟨A.toArray⟩, .string ⟨B.toArray⟩, .string ⟨T.toArray⟩]) ∧ Below W.heap.size W w') ∧
  (∀ W, Calls Tryz.prog 181 #[.agg #[.string f, .int .i64 al, .int .i64 si, .bool alt, .bool ze, .int .i64 wi, .int .i64 gr, .int .i64 pr, .string ⟨t.toArray⟩], .agg #[.bool n, .int .i64 c, .int .i64 e]] W fun r w' => r = .returned (.tuple #[.string ⟨A.toArray⟩, .string ⟨B.toArray⟩, .string ⟨T.toArray⟩]) ∧ Below W.heap.size W w')
theorem fx_am {c e : Int} {P : Nat} {T : List UInt8} (hb : fxC c e P ≤ 999999999) (h4 : e + P ≤ 40) (h5 : P ≤ 29) (hT : T.length ≤ 5) : AmL (fxA c e P) (fxB c e P) T :=
  ⟨(fxAB_len hb h4 h5).1, (fxAB_len hb h4 h5).2, hT, fxA_dg c e P, fxB_dg c e P⟩
theorem prW_nat {pr : Int} (h0 : -1 ≤ pr) (h9 : pr ≤ 9) : ∃ P : Nat, prW pr = P ∧ P ≤ 9 := by
  unfold prW
  split
  · exact ⟨6, rfl, by omega⟩
  · exact ⟨pr.toNat, by omega, by omega⟩
theorem min_nat {pr : Int} (h0 : -1 ≤ pr) (h9 : pr ≤ 9) : ∃ P : Nat, min (prW pr) 8 = P ∧ P ≤ 8 := by
  obtain ⟨P, h, h1⟩ := prW_nat h0 h9
  rw [h]
  exact ⟨min P 8, by omega, by omega⟩
theorem max_nat {pr : Int} (h0 : -1 ≤ pr) (h9 : pr ≤ 9) : ∃ P : Nat, max (prW pr) 1 = (P : Int) + 1 ∧ P ≤ 8 := by
  obtain ⟨P, h, h1⟩ := prW_nat h0 h9
  rw [h]
  exact ⟨max P 1 - 1, by omega, by omega⟩
theorem pow_le {n : Bool} {c e : Int} {P : Nat} (u : UInt8) (hv : Fd.vld ⟨n, c, e⟩ = true) (hp : P ≤ 8) : (powL u (rlI n c e (P + 1))).length ≤ 5 := by
  have hb := rl_bd (g := (P : Int) + 1) hv (by omega) (by omega)
  exact powL_len ⟨by omega, by omega⟩
theorem gnU_le {n : Bool} {c e : Int} {P : Nat} (u : UInt8) (hv : Fd.vld ⟨n, c, e⟩ = true) (hp : P ≤ 8) : (gnU u n c e P).length ≤ 5 := by
  unfold gnU
  split
  · exact pow_le u hv hp
  · simp
theorem trR_le70 {l : List UInt8} (h : l.length ≤ 70) : (trR 48 l).length ≤ 70 := Nat.le_trans (trR_len 48 l) h
/-- the digits ahead of the point, those behind it, and what comes at the end -/
def amT (alt : Bool) (pr : Int) (t : List UInt8) (n : Bool) (c e : Int) : List UInt8 × List UInt8 × List UInt8 :=
  if t = [] then (fxA c e (Fd.placesI ⟨n, c, e⟩).toNat, fxB c e (Fd.placesI ⟨n, c, e⟩).toNat, [])
  else if t = [102] then (fxA c e (prW pr).toNat, fxB c e (prW pr).toNat, [])
  else if t = [101] then (fxA c (e - rlI n c e ((min (prW pr) 8).toNat + 1)) (min (prW pr) 8).toNat, fxB c (e - rlI n c e ((min (prW pr) 8).toNat + 1)) (min (prW pr) 8).toNat, powL 101 (rlI n c e ((min (prW pr) 8).toNat + 1)))
  else if t = [69] then (fxA c (e - rlI n c e ((min (prW pr) 8).toNat + 1)) (min (prW pr) 8).toNat, fxB c (e - rlI n c e ((min (prW pr) 8).toNat + 1)) (min (prW pr) 8).toNat, powL 69 (rlI n c e ((min (prW pr) 8).toNat + 1)))
  else if t = [103] then (gnA n c e (max (prW pr) 1 - 1).toNat, if alt then gnB n c e (max (prW pr) 1 - 1).toNat else trR 48 (gnB n c e (max (prW pr) 1 - 1).toNat), gnT n c e (max (prW pr) 1 - 1).toNat)
  else if t = [71] then (gnA n c e (max (prW pr) 1 - 1).toNat, if alt then gnB n c e (max (prW pr) 1 - 1).toNat else trR 48 (gnB n c e (max (prW pr) 1 - 1).toNat), gnU 69 n c e (max (prW pr) 1 - 1).toNat)
  else (fxA c (e + 2) (prW pr).toNat, fxB c (e + 2) (prW pr).toNat, [37])
theorem am_ex (f : ByteArray) (al si : Int) (alt ze : Bool) (wi gr pr : Int) (t : List UInt8) (n : Bool) (c e : Int) (hv : Fd.vld ⟨n, c, e⟩ = true) (h0 : -1 ≤ pr) (h9 : pr ≤ 9) (hT : TyR t) :
    ∃ A B T, AmB f al si alt ze wi gr pr t n c e A B T ∧ amT alt pr t n c e = (A, B, T) := by
  obtain ⟨b0, b1, b2, b3⟩ := vld_b hv
  obtain ⟨P, hP, hP9⟩ := prW_nat h0 h9
  obtain ⟨Q, hQ, hQ8⟩ := min_nat h0 h9
  obtain ⟨R, hR, hR8⟩ := max_nat h0 h9
  rcases hT with rfl | rfl | rfl | rfl | rfl | rfl | rfl
  · obtain ⟨m, hm⟩ := pl_facts hv
    have hmb := hm.mb
    have F := fx_facts n (c := c) (e := e) (p := m) b0 b1 (by omega) (by omega) (by omega) (by omega)
    refine ⟨_, _, _, ⟨fx_am F.cb (by omega) (by omega) (by simp), fun W h => amountOf_none f al si alt ze wi gr pr n c e _ _ [] W h (fun W h => plain_any n c e m W hv hm h), fun W => realParts_none f al si alt ze wi gr pr n c e m W hv h0 hm.pl hmb⟩, by unfold amT; simp [hm.pl]⟩
  · have F := fx_facts n (c := c) (e := e) (p := P) b0 b1 (by omega) (by omega) (by omega) (by omega)
    refine ⟨_, _, _, ⟨fx_am F.cb (by omega) (by omega) (by simp), fun W h => amountOf_f f al si alt ze wi gr pr n c e _ _ [] W h (fun W h => showFixed_any f al si alt ze wi gr pr _ n c e P W h hv hP hP9), fun W => realParts_f f al si alt ze wi gr pr n c e P W hv h0 hP hP9⟩, by unfold amT; simp [hP]⟩
  · have hl := ex_len hv hQ8
    refine ⟨_, _, _, ⟨⟨hl.1, hl.2, pow_le 101 hv hQ8, fxA_dg _ _ _, fxB_dg _ _ _⟩, fun W h => amountOf_e f al si alt ze wi gr pr n c e _ _ _ W h (fun W h => showScientific_any f al si alt ze wi gr pr _ n c e Q W h hv hQ hQ8), fun W => realParts_e f al si alt ze wi gr pr n c e Q W hv h0 hQ hQ8⟩, by unfold amT; simp [hQ]⟩
  · have hl := ex_len hv hQ8
    have hpw := pow_le 101 hv hQ8
    refine ⟨_, _, _, ⟨⟨hl.1, hl.2, pow_le 69 hv hQ8, fxA_dg _ _ _, fxB_dg _ _ _⟩, fun W h => amountOf_E f al si alt ze wi gr pr n c e _ _ _ _ W h (fun W h => showScientific_any f al si alt ze wi gr pr _ n c e Q W h hv hQ hQ8) (fun W => ToUpper_pow _ (by omega) W), fun W => realParts_E f al si alt ze wi gr pr n c e Q W hv h0 hQ hQ8⟩, by unfold amT; simp [hQ]⟩
  · have hl := gn_len hv hR8
    cases alt
    · refine ⟨_, _, _, ⟨⟨hl.1, trR_le70 hl.2.1, hl.2.2, gnA_dg _ _ _ _, trR_dg (gnB_dg _ _ _ _)⟩, fun W h => amountOf_g f al si false ze wi gr pr n c e _ _ _ W h (fun W h => showGeneral_any f al si false ze wi gr pr _ n c e R W h hv hR hR8), fun W => realParts_gF f al si ze wi gr pr n c e R W hv h0 hR hR8⟩, by unfold amT; simp [show (max (prW pr) 1 - 1).toNat = R by omega]⟩
    · refine ⟨_, _, _, ⟨⟨hl.1, hl.2.1, hl.2.2, gnA_dg _ _ _ _, gnB_dg _ _ _ _⟩, fun W h => amountOf_g f al si true ze wi gr pr n c e _ _ _ W h (fun W h => showGeneral_any f al si true ze wi gr pr _ n c e R W h hv hR hR8), fun W => realParts_gT f al si ze wi gr pr n c e R W hv h0 hR hR8⟩, by unfold amT; simp [show (max (prW pr) 1 - 1).toNat = R by omega]⟩
  · have hl := gn_len hv hR8
    have hgl : (gnT n c e R).length ≤ 10 := by omega
    cases alt
    · refine ⟨_, _, _, ⟨⟨hl.1, trR_le70 hl.2.1, gnU_le 69 hv hR8, gnA_dg _ _ _ _, trR_dg (gnB_dg _ _ _ _)⟩, fun W h => amountOf_G f al si false ze wi gr pr n c e _ _ _ _ W h (fun W h => showGeneral_any f al si false ze wi gr pr _ n c e R W h hv hR hR8) (fun W => ToUpper_gn n c e R hgl W), fun W => realParts_GF f al si ze wi gr pr n c e R W hv h0 hR hR8⟩, by unfold amT; simp [show (max (prW pr) 1 - 1).toNat = R by omega]⟩
    · refine ⟨_, _, _, ⟨⟨hl.1, hl.2.1, gnU_le 69 hv hR8, gnA_dg _ _ _ _, gnB_dg _ _ _ _⟩, fun W h => amountOf_G f al si true ze wi gr pr n c e _ _ _ _ W h (fun W h => showGeneral_any f al si true ze wi gr pr _ n c e R W h hv hR hR8) (fun W => ToUpper_gn n c e R hgl W), fun W => realParts_GT f al si ze wi gr pr n c e R W hv h0 hR hR8⟩, by unfold amT; simp [show (max (prW pr) 1 - 1).toNat = R by omega]⟩
  · have F := fx_facts n (c := c) (e := e + 2) (p := P) b0 b1 (by omega) (by omega) (by omega) (by omega)
    refine ⟨_, _, _, ⟨fx_am F.cb (by omega) (by omega) (by decide), fun W h => amountOf_p f al si alt ze wi gr pr n c e _ _ [37] W h (fun W h => showPercent_any f al si alt ze wi gr pr _ n c e P W h hv hP hP9), fun W => realParts_p f al si alt ze wi gr pr n c e P W hv h0 hP hP9⟩, by unfold amT; simp [hP]⟩
end Go.Proofs.YtebheehjhnaklaaGreatDoor
namespace Go.Proofs.YtebheehjhnaklaaGreatDoor
open Go Go.RowKit
theorem kind_one {b : UInt8} (h : (kindB b == 1) = true) : b = 102 ∨ b = 101 ∨ b = 69 ∨ b = 103 ∨ b = 71 ∨ b = 37 := by
  have := all_bytes (fun b => !(kindB b == 1) || (b == 102 || (b == 101 || (b == 69 || (b == 103 || (b == 71 || b == 37)))))) (by kernel_rfl) b
  simp only [h, Bool.not_true, Bool.false_or, Bool.or_eq_true, beq_iff_eq] at this
  exact this
theorem tyR_of {al si : Int} {alt ze : Bool} {gr pr : Int} {t : ByteArray} (h : suitT al si alt ze gr pr t 1 = true) : TyR t.data.toList := by
  unfold suitT at h
  split at h
  · rename_i e; rw [e]; exact .inl rfl
  · rename_i b e
    rw [e]
    simp only [Bool.and_eq_true] at h
    rcases kind_one h.1 with rfl | rfl | rfl | rfl | rfl | rfl
    · exact .inr (.inl rfl)
    · exact .inr (.inr (.inl rfl))
    · exact .inr (.inr (.inr (.inl rfl)))
    · exact .inr (.inr (.inr (.inr (.inl rfl))))
    · exact .inr (.inr (.inr (.inr (.inr (.inl rfl)))))
    · exact .inr (.inr (.inr (.inr (.inr (.inr rfl)))))
  · cases h
def grB (v s d : Bool) : Bool := v && (s && d)
set_option maxRecDepth 100000 in
set_option maxHeartbeats 8000000 in
theorem goodRealS_any (f : ByteArray) (al si : Int) (alt ze : Bool) (wi gr pr : Int) (t : ByteArray) (n : Bool) (c e : Int) (w : World) :
    Calls Tryz.prog 114 #[.agg #[.string f, .int .i64 al, .int .i64 si, .bool alt, .bool ze, .int .i64 wi, .int .i64 gr, .int .i64 pr, .string t], .agg #[.bool n, .int .i64 c, .int .i64 e]] w fun r w' => r = .returned (.bool (grB (vSp f al si wi gr pr t) (suitT al si alt ze gr pr t 1) (Fd.vld ⟨n, c, e⟩))) ∧ Below w.heap.size w w' := by
  have kv := fun W => validSpecS_any f al si alt ze wi gr pr t W
  have kd := fun W => validS_any n c e W
  have za := (C9.new w (.string f) (.int .i64 al) (.int .i64 si) (.bool alt) (.bool ze) (.int .i64 wi) (.int .i64 gr) (.int .i64 pr) (.string t) 38).up (.cells #[.bool n, .int .i64 c, .int .i64 e] 24)
  have zd : C3 ((w.alloc (.cells #[.string f, .int .i64 al, .int .i64 si, .bool alt, .bool ze, .int .i64 wi, .int .i64 gr, .int .i64 pr, .string t] 38)).alloc (.cells #[.bool n, .int .i64 c, .int .i64 e] 24)) (w.heap.size + 1) (.bool n) (.int .i64 c) (.int .i64 e) := by
    have h := C3.new (w.alloc (.cells #[.string f, .int .i64 al, .int .i64 si, .bool alt, .bool ze, .int .i64 wi, .int .i64 gr, .int .i64 pr, .string t] 38)) (.bool n) (.int .i64 c) (.int .i64 e) 24
    rw [show (w.alloc (.cells #[.string f, .int .i64 al, .int .i64 si, .bool alt, .bool ze, .int .i64 wi, .int .i64 gr, .int .i64 pr, .string t] 38)).heap.size = w.heap.size + 1 by simp] at h
    exact h
  have hB : Below w.heap.size w ((w.alloc (.cells #[.string f, .int .i64 al, .int .i64 si, .bool alt, .bool ze, .int .i64 wi, .int .i64 gr, .int .i64 pr, .string t] 38)).alloc (.cells #[.bool n, .int .i64 c, .int .i64 e] 24)) := ((Below.refl _ _).alloc (Nat.le_refl _) _).alloc (by simp) _
  unfold grB
  have zz := za
  obtain ⟨za_x0, za_x1, za_x2, za_x3, za_x4, za_x5, za_x6, za_x7, za_x8, za_xf, za_xl⟩ := zz
  have zz := zd
  obtain ⟨zd_0, zd_1, zd_2, zd_3, zd_4, zd_5, zd_6⟩ := zz
  cases hv : vSp f al si wi gr pr t
  · rw [Bool.false_and]
    rw [hv] at kv
    have KV := Lib.hid kv
    clear kv kd hv
    go_enter Tryz.func114, Tryz.ntmps114
    go_wp2_with (first | (go_at_call 80; (with_reducible refine Calls.mono (KV.out _) ?_); rintro r w1 ⟨rfl, hb⟩; replace hB := hB.trans (hb.mono hB.size); have hz := hb.size; replace za := C9.carry za hb; have zz := za; obtain ⟨za_x0, za_x1, za_x2, za_x3, za_x4, za_x5, za_x6, za_x7, za_x8, za_xf, za_xl⟩ := zz; replace zd := C3.carry zd hb; have zz := zd; obtain ⟨zd_0, zd_1, zd_2, zd_3, zd_4, zd_5, zd_6⟩ := zz))
    all_goals go_ret
    all_goals exact ⟨rfl, hB⟩
  · have V := vSp_open hv
    have ks := fun W => suitsS_any f al si alt ze wi gr pr t 1 W V.pr0 V.type
    rw [hv] at kv
    rw [Bool.true_and]
    clear V hv
    generalize suitT al si alt ze gr pr t 1 = s at *
    generalize Fd.vld ⟨n, c, e⟩ = d at *
    have KV := Lib.hid kv; have KS := Lib.hid ks; have KD := Lib.hid kd
    clear kv ks kd
    cases s
    · go_enter Tryz.func114, Tryz.ntmps114
      go_wp2_with (first | (go_at_call 80; (with_reducible refine Calls.mono (KV.out _) ?_); rintro r w1 ⟨rfl, hb⟩; replace hB := hB.trans (hb.mono hB.size); have hz := hb.size; replace za := C9.carry za hb; have zz := za; obtain ⟨za_x0, za_x1, za_x2, za_x3, za_x4, za_x5, za_x6, za_x7, za_x8, za_xf, za_xl⟩ := zz; replace zd := C3.carry zd hb; have zz := zd; obtain ⟨zd_0, zd_1, zd_2, zd_3, zd_4, zd_5, zd_6⟩ := zz) | (go_at_call 81; (with_reducible refine Calls.mono (KS.out _) ?_); rintro r w1 ⟨rfl, hb⟩; replace hB := hB.trans (hb.mono hB.size); have hz := hb.size; replace za := C9.carry za hb; have zz := za; obtain ⟨za_x0, za_x1, za_x2, za_x3, za_x4, za_x5, za_x6, za_x7, za_x8, za_xf, za_xl⟩ := zz; replace zd := C3.carry zd hb; have zz := zd; obtain ⟨zd_0, zd_1, zd_2, zd_3, zd_4, zd_5, zd_6⟩ := zz))
      all_goals go_ret
      all_goals exact ⟨rfl, hB⟩
    · rw [Bool.true_and]
      go_enter Tryz.func114, Tryz.ntmps114
      go_wp2_with (first | (go_at_call 80; (with_reducible refine Calls.mono (KV.out _) ?_); rintro r w1 ⟨rfl, hb⟩; replace hB := hB.trans (hb.mono hB.size); have hz := hb.size; replace za := C9.carry za hb; have zz := za; obtain ⟨za_x0, za_x1, za_x2, za_x3, za_x4, za_x5, za_x6, za_x7, za_x8, za_xf, za_xl⟩ := zz; replace zd := C3.carry zd hb; have zz := zd; obtain ⟨zd_0, zd_1, zd_2, zd_3, zd_4, zd_5, zd_6⟩ := zz) | (go_at_call 81; (with_reducible refine Calls.mono (KS.out _) ?_); rintro r w1 ⟨rfl, hb⟩; replace hB := hB.trans (hb.mono hB.size); have hz := hb.size; replace za := C9.carry za hb; have zz := za; obtain ⟨za_x0, za_x1, za_x2, za_x3, za_x4, za_x5, za_x6, za_x7, za_x8, za_xf, za_xl⟩ := zz; replace zd := C3.carry zd hb; have zz := zd; obtain ⟨zd_0, zd_1, zd_2, zd_3, zd_4, zd_5, zd_6⟩ := zz) | (go_at_call 47; (with_reducible refine Calls.mono (KD.out _) ?_); rintro r w1 ⟨rfl, hb⟩; replace hB := hB.trans (hb.mono hB.size); have hz := hb.size; replace za := C9.carry za hb; have zz := za; obtain ⟨za_x0, za_x1, za_x2, za_x3, za_x4, za_x5, za_x6, za_x7, za_x8, za_xf, za_xl⟩ := zz; replace zd := C3.carry zd hb; have zz := zd; obtain ⟨zd_0, zd_1, zd_2, zd_3, zd_4, zd_5, zd_6⟩ := zz))
      all_goals go_ret
      all_goals exact ⟨rfl, hB⟩
set_option maxRecDepth 100000 in
set_option maxHeartbeats 8000000 in
/-- both sides answer one text at every specification and decimal -/
theorem FormatReal_both (f : ByteArray) (al si : Int) (alt ze : Bool) (wi gr pr : Int) (t : ByteArray) (n : Bool) (c e : Int) :
    ∃ R : ByteArray, (∀ W, PT W → Calls Tryz.prog 87 #[.agg #[.string f, .int .i64 al, .int .i64 si, .bool alt, .bool ze, .int .i64 wi, .int .i64 gr, .int .i64 pr, .string t], .agg #[.bool n, .int .i64 c, .int .i64 e]] W fun r w' => r = .returned (.string R) ∧ Below W.heap.size W w') ∧
      (∀ W, Calls Tryz.prog 68 #[.agg #[.string f, .int .i64 al, .int .i64 si, .bool alt, .bool ze, .int .i64 wi, .int .i64 gr, .int .i64 pr, .string t], .agg #[.bool n, .int .i64 c, .int .i64 e]] W fun r w' => r = .returned (.string R) ∧ Below W.heap.size W w') ∧
      (grB (vSp f al si wi gr pr t) (suitT al si alt ze gr pr t 1) (Fd.vld ⟨n, c, e⟩) = false → R = ⟨#[]⟩) ∧
      (grB (vSp f al si wi gr pr t) (suitT al si alt ze gr pr t 1) (Fd.vld ⟨n, c, e⟩) = true → ∃ A B T, AmB f al si alt ze wi gr pr t.data.toList n c e A B T ∧ amT alt pr t.data.toList n c e = (A, B, T) ∧ R = ⟨(frL (fcB f ze) (alW al ze 1) si alt wi.toNat gr n A B T).toArray⟩) := by
  have kg := fun W => goodRealS_any f al si alt ze wi gr pr t n c e W
  have ks := fun W => SpecSuits_any f al si alt ze wi gr pr t 1 W
  have kd := fun W => ValidDec_any n c e W
  cases hb : grB (vSp f al si wi gr pr t) (suitT al si alt ze gr pr t 1) (Fd.vld ⟨n, c, e⟩)
  · rw [hb] at kg
    refine ⟨⟨#[]⟩, fun w hP => ?_, fun w => ?_, fun _ => rfl, fun h => by cases h⟩
    · have hs : (suitW (vSp f al si wi gr pr t) al si alt ze gr pr t 1 && Fd.vld ⟨n, c, e⟩) = false := by
        unfold grB at hb
        unfold suitW
        rw [Bool.and_assoc]; exact hb
      clear hb kg
      generalize suitW (vSp f al si wi gr pr t) al si alt ze gr pr t 1 = s at *
      generalize Fd.vld ⟨n, c, e⟩ = d at *
      have za := (C9.new w (.string f) (.int .i64 al) (.int .i64 si) (.bool alt) (.bool ze) (.int .i64 wi) (.int .i64 gr) (.int .i64 pr) (.string t) 38).up (.cells #[.bool n, .int .i64 c, .int .i64 e] 24)
      have zd : C3 ((w.alloc (.cells #[.string f, .int .i64 al, .int .i64 si, .bool alt, .bool ze, .int .i64 wi, .int .i64 gr, .int .i64 pr, .string t] 38)).alloc (.cells #[.bool n, .int .i64 c, .int .i64 e] 24)) (w.heap.size + 1) (.bool n) (.int .i64 c) (.int .i64 e) := by
        have h := C3.new (w.alloc (.cells #[.string f, .int .i64 al, .int .i64 si, .bool alt, .bool ze, .int .i64 wi, .int .i64 gr, .int .i64 pr, .string t] 38)) (.bool n) (.int .i64 c) (.int .i64 e) 24
        rw [show (w.alloc (.cells #[.string f, .int .i64 al, .int .i64 si, .bool alt, .bool ze, .int .i64 wi, .int .i64 gr, .int .i64 pr, .string t] 38)).heap.size = w.heap.size + 1 by simp] at h
        exact h
      have hB : Below w.heap.size w ((w.alloc (.cells #[.string f, .int .i64 al, .int .i64 si, .bool alt, .bool ze, .int .i64 wi, .int .i64 gr, .int .i64 pr, .string t] 38)).alloc (.cells #[.bool n, .int .i64 c, .int .i64 e] 24)) := ((Below.refl _ _).alloc (Nat.le_refl _) _).alloc (by simp) _
      have KS := Lib.hid ks; have KD := Lib.hid kd
      clear ks kd
      have zz := za
      obtain ⟨za_x0, za_x1, za_x2, za_x3, za_x4, za_x5, za_x6, za_x7, za_x8, za_xf, za_xl⟩ := zz
      have zz := zd
      obtain ⟨zd_0, zd_1, zd_2, zd_3, zd_4, zd_5, zd_6⟩ := zz
      cases s
      · clear hs
        go_enter Tryz.func87, Tryz.ntmps87
        go_wp2_with (first | (go_at_call 85; (with_reducible refine Calls.mono (KS.out _) ?_); rintro r w1 ⟨rfl, hb⟩; replace hB := hB.trans (hb.mono hB.size); have hz := hb.size; replace za := C9.carry za hb; have zz := za; obtain ⟨za_x0, za_x1, za_x2, za_x3, za_x4, za_x5, za_x6, za_x7, za_x8, za_xf, za_xl⟩ := zz; replace zd := C3.carry zd hb; have zz := zd; obtain ⟨zd_0, zd_1, zd_2, zd_3, zd_4, zd_5, zd_6⟩ := zz))
        all_goals go_ret
        all_goals exact ⟨rfl, hB⟩
      · have hd : d = false := by simpa using hs
        subst hd
        clear hs
        go_enter Tryz.func87, Tryz.ntmps87
        go_wp2_with (first | (go_at_call 85; (with_reducible refine Calls.mono (KS.out _) ?_); rintro r w1 ⟨rfl, hb⟩; replace hB := hB.trans (hb.mono hB.size); have hz := hb.size; replace za := C9.carry za hb; have zz := za; obtain ⟨za_x0, za_x1, za_x2, za_x3, za_x4, za_x5, za_x6, za_x7, za_x8, za_xf, za_xl⟩ := zz; replace zd := C3.carry zd hb; have zz := zd; obtain ⟨zd_0, zd_1, zd_2, zd_3, zd_4, zd_5, zd_6⟩ := zz) | (go_at_call 43; (with_reducible refine Calls.mono (KD.out _) ?_); rintro r w1 ⟨rfl, hb⟩; replace hB := hB.trans (hb.mono hB.size); have hz := hb.size; replace za := C9.carry za hb; have zz := za; obtain ⟨za_x0, za_x1, za_x2, za_x3, za_x4, za_x5, za_x6, za_x7, za_x8, za_xf, za_xl⟩ := zz; replace zd := C3.carry zd hb; have zz := zd; obtain ⟨zd_0, zd_1, zd_2, zd_3, zd_4, zd_5, zd_6⟩ := zz))
        all_goals go_ret
        all_goals exact ⟨rfl, hB⟩
    · have KG := Lib.hid kg
      clear kg ks kd hb
      have za := (C9.new w (.string f) (.int .i64 al) (.int .i64 si) (.bool alt) (.bool ze) (.int .i64 wi) (.int .i64 gr) (.int .i64 pr) (.string t) 38).up (.cells #[.bool n, .int .i64 c, .int .i64 e] 24)
      have zd : C3 ((w.alloc (.cells #[.string f, .int .i64 al, .int .i64 si, .bool alt, .bool ze, .int .i64 wi, .int .i64 gr, .int .i64 pr, .string t] 38)).alloc (.cells #[.bool n, .int .i64 c, .int .i64 e] 24)) (w.heap.size + 1) (.bool n) (.int .i64 c) (.int .i64 e) := by
        have h := C3.new (w.alloc (.cells #[.string f, .int .i64 al, .int .i64 si, .bool alt, .bool ze, .int .i64 wi, .int .i64 gr, .int .i64 pr, .string t] 38)) (.bool n) (.int .i64 c) (.int .i64 e) 24
        rw [show (w.alloc (.cells #[.string f, .int .i64 al, .int .i64 si, .bool alt, .bool ze, .int .i64 wi, .int .i64 gr, .int .i64 pr, .string t] 38)).heap.size = w.heap.size + 1 by simp] at h
        exact h
      have hB : Below w.heap.size w ((w.alloc (.cells #[.string f, .int .i64 al, .int .i64 si, .bool alt, .bool ze, .int .i64 wi, .int .i64 gr, .int .i64 pr, .string t] 38)).alloc (.cells #[.bool n, .int .i64 c, .int .i64 e] 24)) := ((Below.refl _ _).alloc (Nat.le_refl _) _).alloc (by simp) _
      go_enter Tryz.func68, Tryz.ntmps68
      go_wp2_with (first | (go_at_call 114; (with_reducible refine Calls.mono (KG.out _) ?_); rintro r w1 ⟨rfl, hb⟩; replace hB := hB.trans (hb.mono hB.size); have hz := hb.size; replace za := C9.carry za hb; have zz := za; obtain ⟨za_x0, za_x1, za_x2, za_x3, za_x4, za_x5, za_x6, za_x7, za_x8, za_xf, za_xl⟩ := zz; replace zd := C3.carry zd hb; have zz := zd; obtain ⟨zd_0, zd_1, zd_2, zd_3, zd_4, zd_5, zd_6⟩ := zz))
      all_goals go_ret
      all_goals exact ⟨rfl, hB⟩
  · have h3 := hb
    unfold grB at h3
    simp only [Bool.and_eq_true] at h3
    obtain ⟨hv, hs, hd⟩ := h3
    have V := vSp_open hv
    have hw0 := V.wi0; have hw30 := V.wi30
    have hT := tyR_of hs
    have et := of_list t
    obtain ⟨A, B, T, hA, hAT⟩ := am_ex f al si alt ze wi gr pr t.data.toList n c e hd V.pr0 V.pr9 hT
    have hsw : suitW (vSp f al si wi gr pr t) al si alt ze gr pr t 1 = true := by unfold suitW; rw [hv, hs]; rfl
    have hal := alW_in (al := al) ze V.al0 V.al4
    have hal1 : alW al ze 1 = alW al ze 0 := by
      unfold alW
      split
      · cases ze <;> rfl
      · rfl
    refine ⟨⟨(frL (fcB f ze) (alW al ze 1) si alt wi.toNat gr n A B T).toArray⟩, fun W hP => ?_, fun w => ?_, (fun h => by cases h), fun _ => ⟨A, B, T, hA, hAT, rfl⟩⟩
    · rw [hsw] at ks
      rw [hd] at kd
      have kf := fun W => FillFor_any f al si alt ze wi gr pr t W
      rw [hv, fill_one V.fill] at kf
      have ka := fun W => AlignFor_any f al si alt ze wi gr pr t 1 W
      rw [hsw] at ka
      obtain ⟨L, am, _⟩ := hA
      obtain ⟨m, rfl⟩ := Int.eq_ofNat_of_zero_le hw0
      rw [et] at ks kf ka ⊢
      have h := FormatReal_ok f al si alt ze m gr pr t.data.toList n c e A B T (fcB f ze) (alW al ze 1) W hP L (by omega) V.gr0 V.gr2 (by rw [hal1]; exact hal) ks kd am kf ka
      exact h
    · rw [hb] at kg
      have kf := fun W => fillOfS_any f al si alt ze wi gr pr t W
      rw [fill_one V.fill] at kf
      have ka := fun W => alignOfS_any f al si alt ze wi gr pr t 0 W
      rw [← hal1] at ka
      obtain ⟨L, _, am⟩ := hA
      have kx : ∀ W, Calls Tryz.prog 115 #[.agg #[.string f, .int .i64 al, .int .i64 si, .bool alt, .bool ze, .int .i64 wi, .int .i64 gr, .int .i64 pr, .string t], .agg #[.bool n, .int .i64 c, .int .i64 e]] W fun r w' => r = .returned (.string ⟨(frL (fcB f ze) (alW al ze 1) si alt wi.toNat gr n A B T).toArray⟩) ∧ Below W.heap.size W w' := by
        intro W
        obtain ⟨m, rfl⟩ := Int.eq_ofNat_of_zero_le hw0
        rw [et] at kf ka ⊢
        exact formatRealS_ok f al si alt ze m gr pr t.data.toList n c e A B T (fcB f ze) (alW al ze 1) W L (by omega) V.gr0 V.gr2 (by rw [hal1]; exact hal) hT am kf ka
      generalize (⟨(frL (fcB f ze) (alW al ze 1) si alt wi.toNat gr n A B T).toArray⟩ : ByteArray) = R at *
      have KG := Lib.hid kg; have KX := Lib.hid kx
      clear kg kx ks kd kf ka am L hb hv hs hd V hT et
      have za := (C9.new w (.string f) (.int .i64 al) (.int .i64 si) (.bool alt) (.bool ze) (.int .i64 wi) (.int .i64 gr) (.int .i64 pr) (.string t) 38).up (.cells #[.bool n, .int .i64 c, .int .i64 e] 24)
      have zd : C3 ((w.alloc (.cells #[.string f, .int .i64 al, .int .i64 si, .bool alt, .bool ze, .int .i64 wi, .int .i64 gr, .int .i64 pr, .string t] 38)).alloc (.cells #[.bool n, .int .i64 c, .int .i64 e] 24)) (w.heap.size + 1) (.bool n) (.int .i64 c) (.int .i64 e) := by
        have h := C3.new (w.alloc (.cells #[.string f, .int .i64 al, .int .i64 si, .bool alt, .bool ze, .int .i64 wi, .int .i64 gr, .int .i64 pr, .string t] 38)) (.bool n) (.int .i64 c) (.int .i64 e) 24
        rw [show (w.alloc (.cells #[.string f, .int .i64 al, .int .i64 si, .bool alt, .bool ze, .int .i64 wi, .int .i64 gr, .int .i64 pr, .string t] 38)).heap.size = w.heap.size + 1 by simp] at h
        exact h
      have hB : Below w.heap.size w ((w.alloc (.cells #[.string f, .int .i64 al, .int .i64 si, .bool alt, .bool ze, .int .i64 wi, .int .i64 gr, .int .i64 pr, .string t] 38)).alloc (.cells #[.bool n, .int .i64 c, .int .i64 e] 24)) := ((Below.refl _ _).alloc (Nat.le_refl _) _).alloc (by simp) _
      go_enter Tryz.func68, Tryz.ntmps68
      go_wp2_with (first | (go_at_call 114; (with_reducible refine Calls.mono (KG.out _) ?_); rintro r w1 ⟨rfl, hb⟩; replace hB := hB.trans (hb.mono hB.size); have hz := hb.size; replace za := C9.carry za hb; have zz := za; obtain ⟨za_x0, za_x1, za_x2, za_x3, za_x4, za_x5, za_x6, za_x7, za_x8, za_xf, za_xl⟩ := zz; replace zd := C3.carry zd hb; have zz := zd; obtain ⟨zd_0, zd_1, zd_2, zd_3, zd_4, zd_5, zd_6⟩ := zz) | (go_at_call 115; (with_reducible refine Calls.mono (KX.out _) ?_); rintro r w1 ⟨rfl, hb⟩; replace hB := hB.trans (hb.mono hB.size); have hz := hb.size; replace za := C9.carry za hb; have zz := za; obtain ⟨za_x0, za_x1, za_x2, za_x3, za_x4, za_x5, za_x6, za_x7, za_x8, za_xf, za_xl⟩ := zz; replace zd := C3.carry zd hb; have zz := zd; obtain ⟨zd_0, zd_1, zd_2, zd_3, zd_4, zd_5, zd_6⟩ := zz))
      all_goals go_ret
      all_goals exact ⟨rfl, hB⟩
end Go.Proofs.YtebheehjhnaklaaGreatDoor
namespace Go.Proofs.YtebheehjhnaklaaGreatDoor
open Go Go.RowKit
theorem padL_len (H B : List UInt8) (wi : Nat) (c : UInt8) (a : Int) : (padL H B wi c a).length = max wi (H.length + B.length) := by
  unfold padL
  split
  · simp only [List.length_append, rep_len]; omega
  · split
    · simp only [List.length_append, rep_len]; omega
    · split
      · simp only [List.length_append, rep_len]; omega
      · simp only [List.length_append, rep_len]; omega
theorem frL_le {fc : UInt8} {a si : Int} {alt : Bool} {wi : Nat} {gr : Int} {n : Bool} {A B T : List UInt8} (hw : wi ≤ 30) (L : AmL A B T) : (frL fc a si alt wi gr n A B T).length ≤ 600 := by
  obtain ⟨la, lb, lt, _, _⟩ := L
  have h1 := sgn_len si (n && !zdB (A ++ B))
  have h2 := rest_le B T alt
  have h3 := widL_len70 (l := A) (sep := mkL gr) (wd := 0) (n := 3) la (by omega) (mkL_len gr)
  have h4 := widL_len70 (l := A) (sep := mkL gr) (wd := wi - (sgnL si (n && !zdB (A ++ B))).length - (restL B T alt).length) (n := 3) la (by omega) (mkL_len gr)
  rw [widL_zero] at h3
  unfold frL
  split
  · simp only [List.length_append]; omega
  · rw [padL_len, List.length_append]; omega
end Go.Proofs.YtebheehjhnaklaaGreatDoor
namespace Go.Proofs.YtebheehjhnaklaaGreatDoor
open Go Go.RowKit
end Go.Proofs.YtebheehjhnaklaaGreatDoor
