import Derived.Test.YtebheehjhnaklaaGreatDoorE13
import Derived.Test.YtebheehjhnaklaaGreatDoorZ6
import Derived.MapKept
import Derived.WideMake
import Derived.Maps.Own
import Derived.Handy
import Derived.Deep.CutBlock
import Derived.Deep.DeepCutAuto
import Derived.Deep.RegionWith
namespace Go.Proofs.YtebheehjhnaklaaGreatDoor
open Go Go.RowKit Go.MapKept
theorem run_insert_new {P : Program} {w : World} (mty kt et : TypeId) (r clock : Nat) (es : Array MapEntry) (s : ByteArray) (val : Value) (hm : P.underlying mty = some (.map kt et)) (hk : P.underlying kt = some .string) (hb : w.heap[r]? = some (.map es clock)) (hf : Instr.findNow .string (.string s) es.toList 0 = some none) :
    (Instr.mapUpdate mty (.map (some r)) (.string s) val).run P w = .ok () { w with heap := w.heap.setIfInBounds r (.map (es.push { key := .string s, val := val, born := clock }) (clock + 1)) } := by
  have hc : (Instr.checkKey false 10000 kt (.string s)).run P w = .ok () w := MapKept.run_checkKey (k := .string s) hk (by simp [IsKey]) false 9999
  simp [Instr.mapUpdate, run_underlying hm, MapKept.run_getObj_map hb, hc, MapKept.run_findKey hk hf, MapKept.run_setObj_map _ hb, Result.andThen]
theorem run_lookup_hit {P : Program} {w : World} (mty kt et : TypeId) (r clock : Nat) (es : Array MapEntry) (s : ByteArray) (i : Nat) (v : Value) (hm : P.underlying mty = some (.map kt et)) (hk : P.underlying kt = some .string) (hb : w.heap[r]? = some (.map es clock)) (hf : Instr.findNow .string (.string s) es.toList 0 = some (some (i, v))) :
    (Instr.lookup mty (.map (some r)) (.string s) false).run P w = .ok v w := by
  have hc : ∀ em, (Instr.checkKey em 10000 kt (.string s)).run P w = .ok () w := fun em => MapKept.run_checkKey (k := .string s) hk (by simp [IsKey]) em 9999
  simp [Instr.lookup, run_underlying hm, MapKept.run_getObj_map hb, hc, MapKept.run_findKey hk hf, Result.andThen]
theorem wpList_insert_new {P : Program} (w : World) {ops : Array Oper} {rest : List Oper} {o : Oper} {a : Act} {Q : Exit → Act → World → Prop}
    (hg : o.guard = none) (m x v : Operand) (t : TypeId) (hop : o.op = Op.insert t m x v)
    (k e : TypeId) (ht : P.underlying t = some (.map k e)) (hk : P.underlying k = some .string) (b clock : Nat) (es : Array MapEntry)
    (hb : w.heap[b]? = some (.map es clock)) (s : ByteArray) (val : Value) (hm : a.eval m = .map (some b)) (hx : a.eval x = .string s) (hv : a.eval v = val)
    (hf : Instr.findNow .string (.string s) es.toList 0 = some none)
    (hK : ∀ w', w'.heap[b]? = some (.map (es.push { key := .string s, val := val, born := clock }) (clock + 1)) → w.grownBy w' (some b) → wpList P ops Q rest (a.put o.dst undef) w') :
    wpList P ops Q (o :: rest) a w := by
  refine wpList_plain hg fun K' hK' => ?_
  have hrun := run_insert_new t k e b clock es s val ht hk hb hf
  unfold Oper.wp
  simp [execOp, hop, hm, hx, hv, hrun, Result.andThen]
  exact hK' _ _ (hK _ (heap_set hb).1 ⟨rfl, rfl, rfl, by simp, fun i _ hi => (heap_set hb).2 i (fun e => hi (by rw [e]))⟩)
theorem C9.grown {w w' : World} {g b : Nat} {v0 v1 v2 v3 v4 v5 v6 v7 v8 : Value} (h : C9 w g v0 v1 v2 v3 v4 v5 v6 v7 v8) (hg : w.grownBy w' (some b)) (hn : g ≠ b) : C9 w' g v0 v1 v2 v3 v4 v5 v6 v7 v8 := by
  have e : w'.heap[g]? = w.heap[g]? := hg.block g h.lt (fun e => hn (Option.some.inj e))
  have hc : ∀ o, w'.cell? ⟨g, o, none⟩ = w.cell? ⟨g, o, none⟩ := fun o => World.cell?_of_block (w := w) (a := ⟨g, o, none⟩) e
  have hf : ∀ o, w'.frozen? ⟨g, o, none⟩ = w.frozen? ⟨g, o, none⟩ := fun o => World.frozen?_of_block (w := w) (a := ⟨g, o, none⟩) e
  exact h.keep hg.size hc hf
theorem heap_up {w : World} {b : Nat} {o o' : Obj} (h : w.heap[b]? = some o) : (w.alloc o').heap[b]? = some o := by
  have hlt : b < w.heap.size := (Array.getElem?_eq_some_iff.1 h).1
  rw [(heap_alloc w o').2 b hlt]; exact h
end Go.Proofs.YtebheehjhnaklaaGreatDoor
namespace Go.Proofs.YtebheehjhnaklaaGreatDoor
open Go Go.RowKit
theorem mapT : Tryz.prog.underlying 164 = some (.map 9 163) := by kernel_rfl
theorem strT : Tryz.prog.underlying 9 = some .string := by kernel_rfl
/-- what the map of showings holds -/
def shE (s : Value) : Array MapEntry := (((((((#[].push ⟨.string ⟨#[]⟩, .func (.func 74) #[] #[], 0⟩ : Array MapEntry).push ⟨.string ⟨#[102]⟩, .func (.func 249) #[s] #[], 1⟩).push ⟨.string ⟨#[37]⟩, .func (.func 250) #[s] #[], 2⟩).push ⟨.string ⟨#[101]⟩, .func (.func 251) #[s] #[], 3⟩).push ⟨.string ⟨#[69]⟩, .func (.func 251) #[s] #[], 4⟩).push ⟨.string ⟨#[103]⟩, .func (.func 252) #[s] #[], 5⟩).push ⟨.string ⟨#[71]⟩, .func (.func 252) #[s] #[], 6⟩)
set_option maxRecDepth 100000 in
set_option maxHeartbeats 4000000 in
theorem showings_any (f : ByteArray) (al si : Int) (alt ze : Bool) (wi gr pr : Int) (t : ByteArray) (w : World) :
    Calls Tryz.prog 204 #[.agg #[.string f, .int .i64 al, .int .i64 si, .bool alt, .bool ze, .int .i64 wi, .int .i64 gr, .int .i64 pr, .string t]] w fun r w' => ∃ B, r = .returned (.map (some B)) ∧ Below w.heap.size w w' ∧ w.heap.size < B ∧ w'.heap[B]? = some (.map (shE (.agg #[.string f, .int .i64 al, .int .i64 si, .bool alt, .bool ze, .int .i64 wi, .int .i64 gr, .int .i64 pr, .string t])) 7) := by
  have hmm := @run_makeMap_plain Tryz.prog
  have hmf : ∀ (fn : Fn) (first cap : Array Value) (w : World), (Instr.makeFunc fn first cap).run Tryz.prog w = .ok (.func fn first cap) w := fun _ _ _ _ => rfl
  have za := C9.new w (.string f) (.int .i64 al) (.int .i64 si) (.bool alt) (.bool ze) (.int .i64 wi) (.int .i64 gr) (.int .i64 pr) (.string t) 38
  have hB : Below w.heap.size w (w.alloc (.cells #[.string f, .int .i64 al, .int .i64 si, .bool alt, .bool ze, .int .i64 wi, .int .i64 gr, .int .i64 pr, .string t] 38)) := (Below.refl _ _).alloc (Nat.le_refl _) _
  have hs1 : (w.alloc (.cells #[.string f, .int .i64 al, .int .i64 si, .bool alt, .bool ze, .int .i64 wi, .int .i64 gr, .int .i64 pr, .string t] 38)).heap.size = w.heap.size + 1 := by simp
  have hM := (Go.MapKept.heap_alloc (w.alloc (.cells #[.string f, .int .i64 al, .int .i64 si, .bool alt, .bool ze, .int .i64 wi, .int .i64 gr, .int .i64 pr, .string t] 38)) (.map #[] 0)).1
  rw [hs1] at hM
  replace hB := hB.alloc (by omega) (.map #[] 0)
  replace za := za.up (.map #[] 0)
  clear hs1
  have hz := za.lt
  go_enter Tryz.func204, Tryz.ntmps204
  go_wp2_with (first | (refine wpList_insert_new _ (by rfl) _ _ _ _ (by rfl) _ _ mapT strT (w.heap.size + 1) _ _ hM _ _ (by rfl) (by rfl) (by rfl) (by rfl) ?_; intro w1 hM1 hgr; replace hB := hB.grown hgr hB.size (by intro k hk; cases hk; omega); replace za := C9.grown za hgr (by omega); clear hM; have hM := hM1; clear hM1 hgr; have zz := za; obtain ⟨x0, x1, x2, x3, x4, x5, x6, x7, x8, xf, xl⟩ := zz; have hz := za.lt; have hms := (Array.getElem?_eq_some_iff.1 hM).1))
  go_ret
  exact ⟨_, rfl, hB, by omega, hM⟩
end Go.Proofs.YtebheehjhnaklaaGreatDoor
namespace Go.Proofs.YtebheehjhnaklaaGreatDoor
open Go Go.RowKit
/-- the precision that is used -/
def prW (pr : Int) : Int := if pr = -1 then 6 else pr
theorem precision_any (f : ByteArray) (al si : Int) (alt ze : Bool) (wi gr pr : Int) (t : ByteArray) (w : World) :
    Calls Tryz.prog 278 #[.agg #[.string f, .int .i64 al, .int .i64 si, .bool alt, .bool ze, .int .i64 wi, .int .i64 gr, .int .i64 pr, .string t]] w fun r w' => r = .returned (.int .i64 (prW pr)) ∧ Below w.heap.size w w' := by
  have hB : Below w.heap.size w (w.alloc (.cells #[.string f, .int .i64 al, .int .i64 si, .bool alt, .bool ze, .int .i64 wi, .int .i64 gr, .int .i64 pr, .string t] 38)) := (Below.refl _ _).alloc (Nat.le_refl _) _
  unfold prW
  by_cases h : pr = -1
  · subst h
    go_enter Tryz.func278, Tryz.ntmps278
    go_wp2
    go_ret
    exact ⟨rfl, hB⟩
  · have h1 : (pr == -1) = false := by simpa using h
    rw [if_neg h]
    go_enter Tryz.func278, Tryz.ntmps278
    go_wp2
    go_ret
    exact ⟨rfl, hB⟩
set_option maxRecDepth 100000 in
set_option maxHeartbeats 8000000 in
theorem showFixed_any (f : ByteArray) (al si : Int) (alt ze : Bool) (wi gr pr : Int) (t : ByteArray) (n : Bool) (c e : Int) (P : Nat) (w : World) (hT : PT w) (hv : Fd.vld ⟨n, c, e⟩ = true) (hP : prW pr = P) (h9 : P ≤ 9) :
    Calls Tryz.prog 249 #[.agg #[.string f, .int .i64 al, .int .i64 si, .bool alt, .bool ze, .int .i64 wi, .int .i64 gr, .int .i64 pr, .string t], .agg #[.bool n, .int .i64 c, .int .i64 e]] w fun r w' => r = .returned (.agg #[.string ⟨(fxA c e P).toArray⟩, .string ⟨(fxB c e P).toArray⟩, .string ⟨#[]⟩]) ∧ Below w.heap.size w w' := by
  obtain ⟨b0, b1, b2, b3⟩ := vld_b hv
  have kp := fun W => precision_any f al si alt ze wi gr pr t W
  rw [hP] at kp
  have kf := fun W h => fixed_any n c e P W b0 b1 (by omega) (by omega) (by omega) (by omega) h
  generalize fxA c e P = A at *
  generalize fxB c e P = B at *
  have KP := Lib.hid kp; have KF := Lib.hid kf
  clear kp kf hv hP
  have za := ((C9.new w (.string f) (.int .i64 al) (.int .i64 si) (.bool alt) (.bool ze) (.int .i64 wi) (.int .i64 gr) (.int .i64 pr) (.string t) 38).up (.cells #[.bool n, .int .i64 c, .int .i64 e] 24)).up (.cells #[.string ⟨#[]⟩, .string ⟨#[]⟩, .string ⟨#[]⟩] 69)
  have zd : C3 (((w.alloc (.cells #[.string f, .int .i64 al, .int .i64 si, .bool alt, .bool ze, .int .i64 wi, .int .i64 gr, .int .i64 pr, .string t] 38)).alloc (.cells #[.bool n, .int .i64 c, .int .i64 e] 24)).alloc (.cells #[.string ⟨#[]⟩, .string ⟨#[]⟩, .string ⟨#[]⟩] 69)) (w.heap.size + 1) (.bool n) (.int .i64 c) (.int .i64 e) := by
    have h := C3.new (w.alloc (.cells #[.string f, .int .i64 al, .int .i64 si, .bool alt, .bool ze, .int .i64 wi, .int .i64 gr, .int .i64 pr, .string t] 38)) (.bool n) (.int .i64 c) (.int .i64 e) 24
    rw [show (w.alloc (.cells #[.string f, .int .i64 al, .int .i64 si, .bool alt, .bool ze, .int .i64 wi, .int .i64 gr, .int .i64 pr, .string t] 38)).heap.size = w.heap.size + 1 by simp] at h
    exact h.up _
  have zr : C3 (((w.alloc (.cells #[.string f, .int .i64 al, .int .i64 si, .bool alt, .bool ze, .int .i64 wi, .int .i64 gr, .int .i64 pr, .string t] 38)).alloc (.cells #[.bool n, .int .i64 c, .int .i64 e] 24)).alloc (.cells #[.string ⟨#[]⟩, .string ⟨#[]⟩, .string ⟨#[]⟩] 69)) (w.heap.size + 1 + 1) (.string ⟨#[]⟩) (.string ⟨#[]⟩) (.string ⟨#[]⟩) := by
    have h := C3.new ((w.alloc (.cells #[.string f, .int .i64 al, .int .i64 si, .bool alt, .bool ze, .int .i64 wi, .int .i64 gr, .int .i64 pr, .string t] 38)).alloc (.cells #[.bool n, .int .i64 c, .int .i64 e] 24)) (.string ⟨#[]⟩) (.string ⟨#[]⟩) (.string ⟨#[]⟩) 69
    rw [show ((w.alloc (.cells #[.string f, .int .i64 al, .int .i64 si, .bool alt, .bool ze, .int .i64 wi, .int .i64 gr, .int .i64 pr, .string t] 38)).alloc (.cells #[.bool n, .int .i64 c, .int .i64 e] 24)).heap.size = w.heap.size + 1 + 1 by simp] at h
    exact h
  have hB : Below w.heap.size w (((w.alloc (.cells #[.string f, .int .i64 al, .int .i64 si, .bool alt, .bool ze, .int .i64 wi, .int .i64 gr, .int .i64 pr, .string t] 38)).alloc (.cells #[.bool n, .int .i64 c, .int .i64 e] 24)).alloc (.cells #[.string ⟨#[]⟩, .string ⟨#[]⟩, .string ⟨#[]⟩] 69)) := (((Below.refl _ _).alloc (Nat.le_refl _) _).alloc (by simp) _).alloc (by simp; omega) _
  go_enter Tryz.func249, Tryz.ntmps249
  go_upto_region 1 with (fail)
  generalize hW : (((w.alloc (.cells #[.string f, .int .i64 al, .int .i64 si, .bool alt, .bool ze, .int .i64 wi, .int .i64 gr, .int .i64 pr, .string t] 38)).alloc (.cells #[.bool n, .int .i64 c, .int .i64 e] 24)).alloc (.cells #[.string ⟨#[]⟩, .string ⟨#[]⟩, .string ⟨#[]⟩] 69)) = W at za zd zr hB ⊢
  clear hW
  have hwz := hB.size
  obtain ⟨s0, s1, s2, s3, s4, s5, s6, s7, s8⟩ := C9.since za
  obtain ⟨d0, d1, d2⟩ := C3.since zd
  obtain ⟨r0, r1, r2⟩ := C3.since zr
  obtain ⟨a0, a1, a2, a3, a4, a5, a6, a7, a8, af, az⟩ := za
  obtain ⟨e0, e1, e2, e3, e4, e5, e6⟩ := zd
  have zrr := zr
  obtain ⟨t0, t1, t2, t3, t4, t5, t6⟩ := zrr
  have qf0 : ∀ (p : Since W), p.v.frozen? ⟨w.heap.size + 1 + 1, 0, none⟩ = false := fun p => (zr.carry p.h).2.2.2.1
  have qf1 : ∀ (p : Since W), p.v.frozen? ⟨w.heap.size + 1 + 1, 1, none⟩ = false := fun p => (zr.carry p.h).2.2.2.2.1
  have qf2 : ∀ (p : Since W), p.v.frozen? ⟨w.heap.size + 1 + 1, 2, none⟩ = false := fun p => (zr.carry p.h).2.2.2.2.2.1
  have ql : ∀ p : Since W, w.heap.size + 1 + 1 < p.v.heap.size := fun p => Nat.lt_of_lt_of_le t6 p.h.size
  have ql0 : ∀ p : Since W, w.heap.size < p.v.heap.size := fun p => by have := ql p; omega
  have ql1 : ∀ p : Since W, w.heap.size + 1 < p.v.heap.size := fun p => by have := ql p; omega
  have qw0 : w.heap.size < W.heap.size := by omega
  have qw1 : w.heap.size + 1 < W.heap.size := by omega
  go_region_with (first | (go_at_call 278; (with_reducible refine Calls.mono (KP.out _) ?_); rintro r w1 ⟨rfl, hb⟩; obtain ⟨q, hq⟩ : ∃ q : Since W, w1 = q.v := ⟨⟨w1, Below.trans (by repeat (first | with_reducible exact Since.h _ | with_reducible exact Below.refl _ _ | with_reducible refine Below.drew ?_ | with_reducible refine below_drewN ?_ _ | with_reducible refine Below.alloc ?_ (by first | omega | exact (Since.h _).size | (simp; done)) _)) (hb.mono (by first | exact (Since.h _).size | (simp; done) | (have hs_ := (Since.h ‹Since W›).size; simp; omega) | (have hs_ := (Since.h ‹Since W›).size; omega)))⟩, rfl⟩; subst hq; clear hb) | (go_at_call 93; (with_reducible refine Calls.mono (KF.out _ (hT.on (hB.trans (Below.mono (by repeat (first | with_reducible exact Since.h _ | with_reducible exact Below.refl _ _ | with_reducible refine Below.drew ?_ | with_reducible refine below_drewN ?_ _ | with_reducible refine Below.alloc ?_ (by first | omega | exact (Since.h _).size | (simp; done)) _)) (by omega))))) ?_); rintro r w1 ⟨rfl, hb⟩; obtain ⟨q, hq⟩ : ∃ q : Since W, w1 = q.v := ⟨⟨w1, Below.trans (by repeat (first | with_reducible exact Since.h _ | with_reducible exact Below.refl _ _ | with_reducible refine Below.drew ?_ | with_reducible refine below_drewN ?_ _ | with_reducible refine Below.alloc ?_ (by first | omega | exact (Since.h _).size | (simp; done)) _)) (hb.mono (by first | exact (Since.h _).size | (simp; done) | (have hs_ := (Since.h ‹Since W›).size; simp; omega) | (have hs_ := (Since.h ‹Since W›).size; omega)))⟩, rfl⟩; subst hq; clear hb))
  all_goals (repeat (first | go_values | go_skip | go_guarded | go_step | go_upon))
  all_goals refine bodyPost_ret (v := .agg #[.string ⟨A.toArray⟩, .string ⟨B.toArray⟩, .string ⟨#[]⟩]) ?_ rfl ⟨rfl, ?_⟩
  all_goals first | (simp [results, Tryz.results249, go_sem, *]; done) | (have hq_ := hB.trans (Below.mono (Since.h ‹Since W›) (by omega)); repeat (first | with_reducible exact Below.refl _ _ | with_reducible assumption | with_reducible refine Below.setCell ?_ (by first | omega | (simp; done) | (simp <;> omega)) _ | with_reducible refine below_drewN ?_ _ | with_reducible refine Below.drew ?_ | with_reducible refine Below.alloc ?_ (by first | omega | (simp; done) | (simp <;> omega)) _))
end Go.Proofs.YtebheehjhnaklaaGreatDoor
