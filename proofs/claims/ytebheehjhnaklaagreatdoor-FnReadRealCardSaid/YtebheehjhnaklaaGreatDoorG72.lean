import Derived.Test.YtebheehjhnaklaaGreatDoorG6
namespace Go.Proofs.YtebheehjhnaklaaGreatDoor
open Go Go.RowKit
set_option maxRecDepth 100000 in
set_option maxHeartbeats 8000000 in
theorem amountOf_p (f : ByteArray) (al si : Int) (alt ze : Bool) (wi gr pr : Int) (n : Bool) (c e : Int) (A B T : List UInt8) (w : World) (hT : PT w)
    (kc : ∀ W, PT W → Calls Tryz.prog 250 #[.agg #[.string f, .int .i64 al, .int .i64 si, .bool alt, .bool ze, .int .i64 wi, .int .i64 gr, .int .i64 pr, .string ⟨#[37]⟩], .agg #[.bool n, .int .i64 c, .int .i64 e]] W fun r w' => r = .returned (.agg #[.string ⟨A.toArray⟩, .string ⟨B.toArray⟩, .string ⟨T.toArray⟩]) ∧ Below W.heap.size W w') :
    Calls Tryz.prog 148 #[.agg #[.string f, .int .i64 al, .int .i64 si, .bool alt, .bool ze, .int .i64 wi, .int .i64 gr, .int .i64 pr, .string ⟨#[37]⟩], .agg #[.bool n, .int .i64 c, .int .i64 e]] w fun r w' => r = .returned (.agg #[.string ⟨A.toArray⟩, .string ⟨B.toArray⟩, .string ⟨T.toArray⟩]) ∧ Below w.heap.size w w' := by
  have ksh := fun W => showings_any f al si alt ze wi gr pr ⟨#[37]⟩ W
  have hlk : ∀ (W' : World) (M : Nat), W'.heap[M]? = some (.map (shE (.agg #[.string f, .int .i64 al, .int .i64 si, .bool alt, .bool ze, .int .i64 wi, .int .i64 gr, .int .i64 pr, .string ⟨#[37]⟩])) 7) → (Instr.lookup 164 (.map (some M)) (.string ⟨#[37]⟩) false).run Tryz.prog W' = .ok (.func (.func 250) #[.agg #[.string f, .int .i64 al, .int .i64 si, .bool alt, .bool ze, .int .i64 wi, .int .i64 gr, .int .i64 pr, .string ⟨#[37]⟩]] #[]) W' :=
    fun W' M h => run_lookup_hit _ _ _ M 7 _ _ 2 _ mapT strT h (by rfl)
  have KSH := Lib.hid ksh; have HLK := Lib.hid hlk; have KC := Lib.hid kc
  clear ksh hlk kc
  have za := ((C9.new w (.string f) (.int .i64 al) (.int .i64 si) (.bool alt) (.bool ze) (.int .i64 wi) (.int .i64 gr) (.int .i64 pr) (.string ⟨#[37]⟩) 38).up (.cells #[.bool n, .int .i64 c, .int .i64 e] 24)).up (.cells #[.string ⟨#[]⟩, .string ⟨#[]⟩, .string ⟨#[]⟩] 69)
  have zd : C3 (((w.alloc (.cells #[.string f, .int .i64 al, .int .i64 si, .bool alt, .bool ze, .int .i64 wi, .int .i64 gr, .int .i64 pr, .string ⟨#[37]⟩] 38)).alloc (.cells #[.bool n, .int .i64 c, .int .i64 e] 24)).alloc (.cells #[.string ⟨#[]⟩, .string ⟨#[]⟩, .string ⟨#[]⟩] 69)) (w.heap.size + 1) (.bool n) (.int .i64 c) (.int .i64 e) := by
    have h := C3.new (w.alloc (.cells #[.string f, .int .i64 al, .int .i64 si, .bool alt, .bool ze, .int .i64 wi, .int .i64 gr, .int .i64 pr, .string ⟨#[37]⟩] 38)) (.bool n) (.int .i64 c) (.int .i64 e) 24
    rw [show (w.alloc (.cells #[.string f, .int .i64 al, .int .i64 si, .bool alt, .bool ze, .int .i64 wi, .int .i64 gr, .int .i64 pr, .string ⟨#[37]⟩] 38)).heap.size = w.heap.size + 1 by simp] at h
    exact h.up _
  have zr : C3 (((w.alloc (.cells #[.string f, .int .i64 al, .int .i64 si, .bool alt, .bool ze, .int .i64 wi, .int .i64 gr, .int .i64 pr, .string ⟨#[37]⟩] 38)).alloc (.cells #[.bool n, .int .i64 c, .int .i64 e] 24)).alloc (.cells #[.string ⟨#[]⟩, .string ⟨#[]⟩, .string ⟨#[]⟩] 69)) (w.heap.size + 1 + 1) (.string ⟨#[]⟩) (.string ⟨#[]⟩) (.string ⟨#[]⟩) := by
    have h := C3.new ((w.alloc (.cells #[.string f, .int .i64 al, .int .i64 si, .bool alt, .bool ze, .int .i64 wi, .int .i64 gr, .int .i64 pr, .string ⟨#[37]⟩] 38)).alloc (.cells #[.bool n, .int .i64 c, .int .i64 e] 24)) (.string ⟨#[]⟩) (.string ⟨#[]⟩) (.string ⟨#[]⟩) 69
    rw [show ((w.alloc (.cells #[.string f, .int .i64 al, .int .i64 si, .bool alt, .bool ze, .int .i64 wi, .int .i64 gr, .int .i64 pr, .string ⟨#[37]⟩] 38)).alloc (.cells #[.bool n, .int .i64 c, .int .i64 e] 24)).heap.size = w.heap.size + 1 + 1 by simp] at h
    exact h
  have hB : Below w.heap.size w (((w.alloc (.cells #[.string f, .int .i64 al, .int .i64 si, .bool alt, .bool ze, .int .i64 wi, .int .i64 gr, .int .i64 pr, .string ⟨#[37]⟩] 38)).alloc (.cells #[.bool n, .int .i64 c, .int .i64 e] 24)).alloc (.cells #[.string ⟨#[]⟩, .string ⟨#[]⟩, .string ⟨#[]⟩] 69)) := (((Below.refl _ _).alloc (Nat.le_refl _) _).alloc (by simp) _).alloc (by simp; omega) _
  go_enter Tryz.func148, Tryz.ntmps148
  go_upto_region 1 with (fail)
  generalize hW : (((w.alloc (.cells #[.string f, .int .i64 al, .int .i64 si, .bool alt, .bool ze, .int .i64 wi, .int .i64 gr, .int .i64 pr, .string ⟨#[37]⟩] 38)).alloc (.cells #[.bool n, .int .i64 c, .int .i64 e] 24)).alloc (.cells #[.string ⟨#[]⟩, .string ⟨#[]⟩, .string ⟨#[]⟩] 69)) = W at za zd zr hB ⊢
  clear hW
  have hwz := hB.size
  have zaa := za
  obtain ⟨a0, a1, a2, a3, a4, a5, a6, a7, a8, af, az⟩ := zaa
  obtain ⟨e0, e1, e2, e3, e4, e5, e6⟩ := zd
  have zrr := zr
  obtain ⟨t0, t1, t2, t3, t4, t5, t6⟩ := zrr
  have qw0 : w.heap.size < W.heap.size := by omega
  have qw1 : w.heap.size + 1 < W.heap.size := by omega
  have hS0 : (∀ b o, b < W.heap.size → W.cell? ⟨b, o, none⟩ = W.cell? ⟨b, o, none⟩) ∧ Below W.heap.size W W := ⟨fun _ _ _ => rfl, Below.refl _ _⟩
  go_cut [5] (fun s5 wx => ∃ g : Nat, s5 = .pointer (some ⟨g, 0, none⟩) ∧ w.heap.size + 1 + 1 < g ∧ C3 wx g (.string ⟨A.toArray⟩) (.string ⟨B.toArray⟩) (.string ⟨T.toArray⟩) ∧ C9 wx w.heap.size (.string f) (.int .i64 al) (.int .i64 si) (.bool alt) (.bool ze) (.int .i64 wi) (.int .i64 gr) (.int .i64 pr) (.string ⟨#[37]⟩) ∧ C3 wx (w.heap.size + 1 + 1) (.string ⟨#[]⟩) (.string ⟨#[]⟩) (.string ⟨#[]⟩) ∧ Below w.heap.size w wx)
  case first =>
    go_region_held3 (fun w_ => (∀ b o, b < W.heap.size → w_.cell? ⟨b, o, none⟩ = W.cell? ⟨b, o, none⟩) ∧ Below W.heap.size W w_) (repeat (first | with_reducible assumption | with_reducible refine keepD ?_ | with_reducible refine keepL ?_ _ | with_reducible refine keepS ?_ (by first | omega | (simp; done) | (simp <;> omega)) _ | with_reducible exact keepA (by with_reducible assumption) hb)) (first | (go_at_call 204; (with_reducible refine Calls.mono (KSH.out _) ?_); rintro r w1 ⟨M, rfl, hb, hMz, hM⟩; (first | (have zN := C3.carry (by first | with_reducible exact zn | with_reducible exact zn.up _ | with_reducible exact C3.drew zn) hb; clear zn; have zn := zN; clear zN; have zz := zn; obtain ⟨n0, n1, n2, n3, n4, n5, n6⟩ := zz) | ((with_reducible have zn := C3.carry (C3.new _ _ _ _ _) hb); have zz := zn; obtain ⟨n0, n1, n2, n3, n4, n5, n6⟩ := zz) | ((with_reducible have zn := C3.carry (C3.drew (C3.new _ _ _ _ _)) hb); have zz := zn; obtain ⟨n0, n1, n2, n3, n4, n5, n6⟩ := zz) | skip); have hS1 := keepA (by repeat (first | with_reducible assumption | with_reducible refine keepD ?_ | with_reducible refine keepL ?_ _ | with_reducible refine keepS ?_ (by first | omega | (simp; omega)) _)) hb; have hzS := hS1.2.size; have hz := hb.size; (try simp at hz); have hl1 := HLK.out w1 M hM; have hl2 := fun o => HLK.out (w1.alloc o) M (heap_up hM); have hl3 := HLK.out w1.drew M hM; have hl4 := fun o => HLK.out (w1.alloc o).drew M (heap_up hM); clear hM hMz) | (go_at_call 250; (with_reducible refine Calls.mono (KC.out _ (PT.onS hT hB (by repeat (first | with_reducible assumption | with_reducible refine keepD ?_ | with_reducible refine keepL ?_ _ | with_reducible refine keepS ?_ (by first | omega | (simp; omega)) _)) hwz)) ?_); rintro r w1 ⟨rfl, hb⟩; (first | (have zN := C3.carry (by first | with_reducible exact zn | with_reducible exact zn.up _ | with_reducible exact C3.drew zn) hb; clear zn; have zn := zN; clear zN; have zz := zn; obtain ⟨n0, n1, n2, n3, n4, n5, n6⟩ := zz) | ((with_reducible have zn := C3.carry (C3.new _ _ _ _ _) hb); have zz := zn; obtain ⟨n0, n1, n2, n3, n4, n5, n6⟩ := zz) | ((with_reducible have zn := C3.carry (C3.drew (C3.new _ _ _ _ _)) hb); have zz := zn; obtain ⟨n0, n1, n2, n3, n4, n5, n6⟩ := zz) | skip); have hS1 := keepA (by repeat (first | with_reducible assumption | with_reducible refine keepD ?_ | with_reducible refine keepL ?_ _ | with_reducible refine keepS ?_ (by first | omega | (simp; omega)) _)) hb; have hzS := hS1.2.size; have hz := hb.size; (try simp at hz)))
    all_goals (repeat (first | go_values | go_skip | go_guarded | go_step | go_upon))
    all_goals go_meet
    all_goals refine ⟨_, rfl, by omega, ?_, za.carry (kBel (by repeat (first | with_reducible assumption | with_reducible refine keepD ?_ | with_reducible refine keepL ?_ _ | with_reducible refine keepS ?_ (by first | omega | (simp; omega)) _))), zr.carry (kBel (by repeat (first | with_reducible assumption | with_reducible refine keepD ?_ | with_reducible refine keepL ?_ _ | with_reducible refine keepS ?_ (by first | omega | (simp; omega)) _))), hB.trans ((kBel (by repeat (first | with_reducible assumption | with_reducible refine keepD ?_ | with_reducible refine keepL ?_ _ | with_reducible refine keepS ?_ (by first | omega | (simp; omega)) _))).mono hwz)⟩
    all_goals first | exact C3.new _ _ _ _ _ | exact C3.setAll zn _ _ _
  case rest =>
    clear hS0 a0 a1 a2 a3 a4 a5 a6 a7 a8 af az e0 e1 e2 e3 e4 e5 e6 t0 t1 t2 t3 t4 t5 t6 za zr hB
    obtain ⟨g, rfl, hg, zg, za, zr, hB⟩ := hcut
    obtain ⟨a0, a1, a2, a3, a4, a5, a6, a7, a8, af, az⟩ := za
    obtain ⟨t0, t1, t2, t3, t4, t5, t6⟩ := zr
    obtain ⟨g0, g1, g2, g3, g4, g5, g6⟩ := zg
    have hgn : g ≠ w.heap.size + 1 + 1 := by omega
    have hgn2 : w.heap.size + 1 + 1 ≠ g := by omega
    have hgz := hB.size
    (repeat (first | go_values | go_skip | go_guarded | go_step | go_upon))
    all_goals refine bodyPost_ret (v := .agg #[.string ⟨A.toArray⟩, .string ⟨B.toArray⟩, .string ⟨T.toArray⟩]) ?_ rfl ⟨rfl, (by repeat (first | with_reducible exact Below.refl _ _ | with_reducible assumption | with_reducible refine Below.setCell ?_ (by first | omega | (simp; done) | (simp <;> omega)) _ | with_reducible refine below_drewN ?_ _ | with_reducible refine Below.drew ?_ | with_reducible refine Below.alloc ?_ (by first | omega | (simp; done) | (simp <;> omega)) _))⟩
    all_goals simp [results, Tryz.results148, go_sem, *]
set_option maxRecDepth 100000 in
set_option maxHeartbeats 8000000 in
theorem amountOf_e (f : ByteArray) (al si : Int) (alt ze : Bool) (wi gr pr : Int) (n : Bool) (c e : Int) (A B T : List UInt8) (w : World) (hT : PT w)
    (kc : ∀ W, PT W → Calls Tryz.prog 251 #[.agg #[.string f, .int .i64 al, .int .i64 si, .bool alt, .bool ze, .int .i64 wi, .int .i64 gr, .int .i64 pr, .string ⟨#[101]⟩], .agg #[.bool n, .int .i64 c, .int .i64 e]] W fun r w' => r = .returned (.agg #[.string ⟨A.toArray⟩, .string ⟨B.toArray⟩, .string ⟨T.toArray⟩]) ∧ Below W.heap.size W w') :
    Calls Tryz.prog 148 #[.agg #[.string f, .int .i64 al, .int .i64 si, .bool alt, .bool ze, .int .i64 wi, .int .i64 gr, .int .i64 pr, .string ⟨#[101]⟩], .agg #[.bool n, .int .i64 c, .int .i64 e]] w fun r w' => r = .returned (.agg #[.string ⟨A.toArray⟩, .string ⟨B.toArray⟩, .string ⟨T.toArray⟩]) ∧ Below w.heap.size w w' := by
  have ksh := fun W => showings_any f al si alt ze wi gr pr ⟨#[101]⟩ W
  have hlk : ∀ (W' : World) (M : Nat), W'.heap[M]? = some (.map (shE (.agg #[.string f, .int .i64 al, .int .i64 si, .bool alt, .bool ze, .int .i64 wi, .int .i64 gr, .int .i64 pr, .string ⟨#[101]⟩])) 7) → (Instr.lookup 164 (.map (some M)) (.string ⟨#[101]⟩) false).run Tryz.prog W' = .ok (.func (.func 251) #[.agg #[.string f, .int .i64 al, .int .i64 si, .bool alt, .bool ze, .int .i64 wi, .int .i64 gr, .int .i64 pr, .string ⟨#[101]⟩]] #[]) W' :=
    fun W' M h => run_lookup_hit _ _ _ M 7 _ _ 3 _ mapT strT h (by rfl)
  have KSH := Lib.hid ksh; have HLK := Lib.hid hlk; have KC := Lib.hid kc
  clear ksh hlk kc
  have za := ((C9.new w (.string f) (.int .i64 al) (.int .i64 si) (.bool alt) (.bool ze) (.int .i64 wi) (.int .i64 gr) (.int .i64 pr) (.string ⟨#[101]⟩) 38).up (.cells #[.bool n, .int .i64 c, .int .i64 e] 24)).up (.cells #[.string ⟨#[]⟩, .string ⟨#[]⟩, .string ⟨#[]⟩] 69)
  have zd : C3 (((w.alloc (.cells #[.string f, .int .i64 al, .int .i64 si, .bool alt, .bool ze, .int .i64 wi, .int .i64 gr, .int .i64 pr, .string ⟨#[101]⟩] 38)).alloc (.cells #[.bool n, .int .i64 c, .int .i64 e] 24)).alloc (.cells #[.string ⟨#[]⟩, .string ⟨#[]⟩, .string ⟨#[]⟩] 69)) (w.heap.size + 1) (.bool n) (.int .i64 c) (.int .i64 e) := by
    have h := C3.new (w.alloc (.cells #[.string f, .int .i64 al, .int .i64 si, .bool alt, .bool ze, .int .i64 wi, .int .i64 gr, .int .i64 pr, .string ⟨#[101]⟩] 38)) (.bool n) (.int .i64 c) (.int .i64 e) 24
    rw [show (w.alloc (.cells #[.string f, .int .i64 al, .int .i64 si, .bool alt, .bool ze, .int .i64 wi, .int .i64 gr, .int .i64 pr, .string ⟨#[101]⟩] 38)).heap.size = w.heap.size + 1 by simp] at h
    exact h.up _
  have zr : C3 (((w.alloc (.cells #[.string f, .int .i64 al, .int .i64 si, .bool alt, .bool ze, .int .i64 wi, .int .i64 gr, .int .i64 pr, .string ⟨#[101]⟩] 38)).alloc (.cells #[.bool n, .int .i64 c, .int .i64 e] 24)).alloc (.cells #[.string ⟨#[]⟩, .string ⟨#[]⟩, .string ⟨#[]⟩] 69)) (w.heap.size + 1 + 1) (.string ⟨#[]⟩) (.string ⟨#[]⟩) (.string ⟨#[]⟩) := by
    have h := C3.new ((w.alloc (.cells #[.string f, .int .i64 al, .int .i64 si, .bool alt, .bool ze, .int .i64 wi, .int .i64 gr, .int .i64 pr, .string ⟨#[101]⟩] 38)).alloc (.cells #[.bool n, .int .i64 c, .int .i64 e] 24)) (.string ⟨#[]⟩) (.string ⟨#[]⟩) (.string ⟨#[]⟩) 69
    rw [show ((w.alloc (.cells #[.string f, .int .i64 al, .int .i64 si, .bool alt, .bool ze, .int .i64 wi, .int .i64 gr, .int .i64 pr, .string ⟨#[101]⟩] 38)).alloc (.cells #[.bool n, .int .i64 c, .int .i64 e] 24)).heap.size = w.heap.size + 1 + 1 by simp] at h
    exact h
  have hB : Below w.heap.size w (((w.alloc (.cells #[.string f, .int .i64 al, .int .i64 si, .bool alt, .bool ze, .int .i64 wi, .int .i64 gr, .int .i64 pr, .string ⟨#[101]⟩] 38)).alloc (.cells #[.bool n, .int .i64 c, .int .i64 e] 24)).alloc (.cells #[.string ⟨#[]⟩, .string ⟨#[]⟩, .string ⟨#[]⟩] 69)) := (((Below.refl _ _).alloc (Nat.le_refl _) _).alloc (by simp) _).alloc (by simp; omega) _
  go_enter Tryz.func148, Tryz.ntmps148
  go_upto_region 1 with (fail)
  generalize hW : (((w.alloc (.cells #[.string f, .int .i64 al, .int .i64 si, .bool alt, .bool ze, .int .i64 wi, .int .i64 gr, .int .i64 pr, .string ⟨#[101]⟩] 38)).alloc (.cells #[.bool n, .int .i64 c, .int .i64 e] 24)).alloc (.cells #[.string ⟨#[]⟩, .string ⟨#[]⟩, .string ⟨#[]⟩] 69)) = W at za zd zr hB ⊢
  clear hW
  have hwz := hB.size
  have zaa := za
  obtain ⟨a0, a1, a2, a3, a4, a5, a6, a7, a8, af, az⟩ := zaa
  obtain ⟨e0, e1, e2, e3, e4, e5, e6⟩ := zd
  have zrr := zr
  obtain ⟨t0, t1, t2, t3, t4, t5, t6⟩ := zrr
  have qw0 : w.heap.size < W.heap.size := by omega
  have qw1 : w.heap.size + 1 < W.heap.size := by omega
  have hS0 : (∀ b o, b < W.heap.size → W.cell? ⟨b, o, none⟩ = W.cell? ⟨b, o, none⟩) ∧ Below W.heap.size W W := ⟨fun _ _ _ => rfl, Below.refl _ _⟩
  go_cut [5] (fun s5 wx => ∃ g : Nat, s5 = .pointer (some ⟨g, 0, none⟩) ∧ w.heap.size + 1 + 1 < g ∧ C3 wx g (.string ⟨A.toArray⟩) (.string ⟨B.toArray⟩) (.string ⟨T.toArray⟩) ∧ C9 wx w.heap.size (.string f) (.int .i64 al) (.int .i64 si) (.bool alt) (.bool ze) (.int .i64 wi) (.int .i64 gr) (.int .i64 pr) (.string ⟨#[101]⟩) ∧ C3 wx (w.heap.size + 1 + 1) (.string ⟨#[]⟩) (.string ⟨#[]⟩) (.string ⟨#[]⟩) ∧ Below w.heap.size w wx)
  case first =>
    go_region_held3 (fun w_ => (∀ b o, b < W.heap.size → w_.cell? ⟨b, o, none⟩ = W.cell? ⟨b, o, none⟩) ∧ Below W.heap.size W w_) (repeat (first | with_reducible assumption | with_reducible refine keepD ?_ | with_reducible refine keepL ?_ _ | with_reducible refine keepS ?_ (by first | omega | (simp; done) | (simp <;> omega)) _ | with_reducible exact keepA (by with_reducible assumption) hb)) (first | (go_at_call 204; (with_reducible refine Calls.mono (KSH.out _) ?_); rintro r w1 ⟨M, rfl, hb, hMz, hM⟩; (first | (have zN := C3.carry (by first | with_reducible exact zn | with_reducible exact zn.up _ | with_reducible exact C3.drew zn) hb; clear zn; have zn := zN; clear zN; have zz := zn; obtain ⟨n0, n1, n2, n3, n4, n5, n6⟩ := zz) | ((with_reducible have zn := C3.carry (C3.new _ _ _ _ _) hb); have zz := zn; obtain ⟨n0, n1, n2, n3, n4, n5, n6⟩ := zz) | ((with_reducible have zn := C3.carry (C3.drew (C3.new _ _ _ _ _)) hb); have zz := zn; obtain ⟨n0, n1, n2, n3, n4, n5, n6⟩ := zz) | skip); have hS1 := keepA (by repeat (first | with_reducible assumption | with_reducible refine keepD ?_ | with_reducible refine keepL ?_ _ | with_reducible refine keepS ?_ (by first | omega | (simp; omega)) _)) hb; have hzS := hS1.2.size; have hz := hb.size; (try simp at hz); have hl1 := HLK.out w1 M hM; have hl2 := fun o => HLK.out (w1.alloc o) M (heap_up hM); have hl3 := HLK.out w1.drew M hM; have hl4 := fun o => HLK.out (w1.alloc o).drew M (heap_up hM); clear hM hMz) | (go_at_call 251; (with_reducible refine Calls.mono (KC.out _ (PT.onS hT hB (by repeat (first | with_reducible assumption | with_reducible refine keepD ?_ | with_reducible refine keepL ?_ _ | with_reducible refine keepS ?_ (by first | omega | (simp; omega)) _)) hwz)) ?_); rintro r w1 ⟨rfl, hb⟩; (first | (have zN := C3.carry (by first | with_reducible exact zn | with_reducible exact zn.up _ | with_reducible exact C3.drew zn) hb; clear zn; have zn := zN; clear zN; have zz := zn; obtain ⟨n0, n1, n2, n3, n4, n5, n6⟩ := zz) | ((with_reducible have zn := C3.carry (C3.new _ _ _ _ _) hb); have zz := zn; obtain ⟨n0, n1, n2, n3, n4, n5, n6⟩ := zz) | ((with_reducible have zn := C3.carry (C3.drew (C3.new _ _ _ _ _)) hb); have zz := zn; obtain ⟨n0, n1, n2, n3, n4, n5, n6⟩ := zz) | skip); have hS1 := keepA (by repeat (first | with_reducible assumption | with_reducible refine keepD ?_ | with_reducible refine keepL ?_ _ | with_reducible refine keepS ?_ (by first | omega | (simp; omega)) _)) hb; have hzS := hS1.2.size; have hz := hb.size; (try simp at hz)))
    all_goals (repeat (first | go_values | go_skip | go_guarded | go_step | go_upon))
    all_goals go_meet
    all_goals refine ⟨_, rfl, by omega, ?_, za.carry (kBel (by repeat (first | with_reducible assumption | with_reducible refine keepD ?_ | with_reducible refine keepL ?_ _ | with_reducible refine keepS ?_ (by first | omega | (simp; omega)) _))), zr.carry (kBel (by repeat (first | with_reducible assumption | with_reducible refine keepD ?_ | with_reducible refine keepL ?_ _ | with_reducible refine keepS ?_ (by first | omega | (simp; omega)) _))), hB.trans ((kBel (by repeat (first | with_reducible assumption | with_reducible refine keepD ?_ | with_reducible refine keepL ?_ _ | with_reducible refine keepS ?_ (by first | omega | (simp; omega)) _))).mono hwz)⟩
    all_goals first | exact C3.new _ _ _ _ _ | exact C3.setAll zn _ _ _
  case rest =>
    clear hS0 a0 a1 a2 a3 a4 a5 a6 a7 a8 af az e0 e1 e2 e3 e4 e5 e6 t0 t1 t2 t3 t4 t5 t6 za zr hB
    obtain ⟨g, rfl, hg, zg, za, zr, hB⟩ := hcut
    obtain ⟨a0, a1, a2, a3, a4, a5, a6, a7, a8, af, az⟩ := za
    obtain ⟨t0, t1, t2, t3, t4, t5, t6⟩ := zr
    obtain ⟨g0, g1, g2, g3, g4, g5, g6⟩ := zg
    have hgn : g ≠ w.heap.size + 1 + 1 := by omega
    have hgn2 : w.heap.size + 1 + 1 ≠ g := by omega
    have hgz := hB.size
    (repeat (first | go_values | go_skip | go_guarded | go_step | go_upon))
    all_goals refine bodyPost_ret (v := .agg #[.string ⟨A.toArray⟩, .string ⟨B.toArray⟩, .string ⟨T.toArray⟩]) ?_ rfl ⟨rfl, (by repeat (first | with_reducible exact Below.refl _ _ | with_reducible assumption | with_reducible refine Below.setCell ?_ (by first | omega | (simp; done) | (simp <;> omega)) _ | with_reducible refine below_drewN ?_ _ | with_reducible refine Below.drew ?_ | with_reducible refine Below.alloc ?_ (by first | omega | (simp; done) | (simp <;> omega)) _))⟩
    all_goals simp [results, Tryz.results148, go_sem, *]
end Go.Proofs.YtebheehjhnaklaaGreatDoor
