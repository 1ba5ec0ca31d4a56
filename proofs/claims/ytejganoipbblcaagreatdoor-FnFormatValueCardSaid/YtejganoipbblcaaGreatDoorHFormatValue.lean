/- Promise 51: proved for every input. No condition. The tables of the library that the row lists are tied to their text, or pinned. -/
import Derived.Test.YtejganoipbblcaaGreatDoorGVDF
import Derived.Test.YtejganoipbblcaaGreatDoorGV2
import Derived.Test.YtejganoipbblcaaGreatDoorRC
import Derived.Test.YtejganoipbblcaaGreatDoorZ10
import Derived.Test.YtejganoipbblcaaGreatDoorTie
import Derived.Test.YtejganoipbblcaaGreatDoorCards
import Derived.LaidMore
import Derived.Lib.LaidTab
import Derived.Stop.LaidErr
import Derived.Handy
import Derived.Deep.LoopGhost
import Derived.Lay
import Derived.OpenShut
import Derived.Stop.Joined
import Derived.SevenTiedAt
namespace Go.Proofs.YtejganoipbblcaaGreatDoor
open Go Go.ChangeShapes Go.WideShapes Go.ChangeAt Go.WideMaps Go.WideElems Go.RowKit Go.Joins Go.ChangeMaps

set_option maxRecDepth 100000 in
set_option maxHeartbeats 16000000 in
theorem FnFormatValue_law (s : Option Addr) (len cap : Nat) (w : World) (hT : PT w) (hD : DT w) (hcode : CodeAt s len w.heap.size w) (hcap : len ≤ cap) :
    Calls Tryz.prog 9 #[.slice s len cap] w fun r w' => r = .returned (.bool true) ∧ Below w.heap.size w w' := by
  by_cases hl : 1048576 < len
  · go_enter Tryz.func9, Tryz.ntmps9
    go_wp2
    go_ret
    exact ⟨rfl, (by repeat (first | with_reducible exact Below.refl _ _ | with_reducible assumption | with_reducible refine Below.setCell ?_ (by first | omega | (simp; done) | (simp <;> omega)) _ | with_reducible refine below_drewN ?_ _ | with_reducible refine Below.drew ?_ | with_reducible refine Below.alloc ?_ (by first | omega | (simp; done) | (simp <;> omega)) _))⟩
  go_enter Tryz.func9, Tryz.ntmps9
  go_wp2_with (go_at_call 30; (with_reducible refine Calls.mono (DrawFormatValue_any _ _ _ _ hcode hcap) ?_); rintro r w1 ⟨⟨f, al, si, alt, ze, wi, gr, pr, t, k, i, n, c, e, x, rfl, hxs⟩, hB⟩; have hz := hB.size)
  have hx : x.size ≤ 9223372036854775807 := by omega
  have k1 := fun W h h' => FormatValue_any f al si alt ze wi gr pr t k i n c e x hx W h h'
  have k2 := fun W => FormatValueS_any f al si alt ze wi gr pr t k i n c e x hx W
  have k3 := fun W => ValidValue_any k i n c e x hx W
  have k4 := fun W => SpecSuits_any f al si alt ze wi gr pr t k W
  have hXX : ∀ l : List UInt8, (l != l) = false := fun l => by simp
  have hXY : ∀ l : List UInt8, (l == l) = true := fun l => by simp
  have hz := hB.size
  have za : C9 ((w1.alloc (.cells #[.string f, .int .i64 al, .int .i64 si, .bool alt, .bool ze, .int .i64 wi, .int .i64 gr, .int .i64 pr, .string t] 24)).alloc (.cells #[.int .i64 k, .int .i64 i, .bool n, .int .i64 c, .int .i64 e, .string x] 33)) (w1.heap.size) (.string f) (.int .i64 al) (.int .i64 si) (.bool alt) (.bool ze) (.int .i64 wi) (.int .i64 gr) (.int .i64 pr) (.string t) := by
    have h := C9.new w1 (.string f) (.int .i64 al) (.int .i64 si) (.bool alt) (.bool ze) (.int .i64 wi) (.int .i64 gr) (.int .i64 pr) (.string t) 24
    exact (h.up (.cells #[.int .i64 k, .int .i64 i, .bool n, .int .i64 c, .int .i64 e, .string x] 33))
  have zv : C6 ((w1.alloc (.cells #[.string f, .int .i64 al, .int .i64 si, .bool alt, .bool ze, .int .i64 wi, .int .i64 gr, .int .i64 pr, .string t] 24)).alloc (.cells #[.int .i64 k, .int .i64 i, .bool n, .int .i64 c, .int .i64 e, .string x] 33)) (w1.heap.size + 1) (.int .i64 k) (.int .i64 i) (.bool n) (.int .i64 c) (.int .i64 e) (.string x) := by
    have h := C6.new (w1.alloc (.cells #[.string f, .int .i64 al, .int .i64 si, .bool alt, .bool ze, .int .i64 wi, .int .i64 gr, .int .i64 pr, .string t] 24)) (.int .i64 k) (.int .i64 i) (.bool n) (.int .i64 c) (.int .i64 e) (.string x) 33
    rw [show (w1.alloc (.cells #[.string f, .int .i64 al, .int .i64 si, .bool alt, .bool ze, .int .i64 wi, .int .i64 gr, .int .i64 pr, .string t] 24)).heap.size = w1.heap.size + 1 by simp] at h
    exact h
  replace hB : Below w.heap.size w ((w1.alloc (.cells #[.string f, .int .i64 al, .int .i64 si, .bool alt, .bool ze, .int .i64 wi, .int .i64 gr, .int .i64 pr, .string t] 24)).alloc (.cells #[.int .i64 k, .int .i64 i, .bool n, .int .i64 c, .int .i64 e, .string x] 33)) := ((hB).alloc (by first | omega | (simp; omega)) _).alloc (by first | omega | (simp; omega)) _
  have zz := za; obtain ⟨za_x0, za_x1, za_x2, za_x3, za_x4, za_x5, za_x6, za_x7, za_x8, za_xf, za_xl⟩ := zz
  have zz := zv; obtain ⟨zv_c0, zv_c1, zv_c2, zv_c3, zv_c4, zv_c5, zv_fz, zv_lt⟩ := zz
  cases hv : vvB k i n c e x
  · have hF : fvB f al si alt ze wi gr pr t k i n c e x = false := by unfold fvB; rw [hv]; rfl
    rw [show fvW f al si alt ze wi gr pr t k i n c e x = [] by unfold fvW; rw [hF]; rfl, hF] at k1 k2
    rw [hv] at k3
    clear hF hv
    have K1 := Lib.hid k1; have K2 := Lib.hid k2; have K3 := Lib.hid k3
    clear k1 k2 k3
    go_wp2_with (first | (go_at_call 16; (with_reducible refine Calls.mono (K1.out _ (hT.on hB) (hD.on hB)) ?_); rintro r w2 ⟨rfl, hb⟩; replace hB := hB.trans (hb.mono hB.size); have hz := hb.size; replace za := C9.carry za hb; have zz := za; obtain ⟨za_x0, za_x1, za_x2, za_x3, za_x4, za_x5, za_x6, za_x7, za_x8, za_xf, za_xl⟩ := zz; replace zv := C6.carry zv hb; have zz := zv; obtain ⟨zv_c0, zv_c1, zv_c2, zv_c3, zv_c4, zv_c5, zv_fz, zv_lt⟩ := zz) | (go_at_call 31; (with_reducible refine Calls.mono (K2.out _) ?_); rintro r w2 ⟨rfl, hb⟩; replace hB := hB.trans (hb.mono hB.size); have hz := hb.size; replace za := C9.carry za hb; have zz := za; obtain ⟨za_x0, za_x1, za_x2, za_x3, za_x4, za_x5, za_x6, za_x7, za_x8, za_xf, za_xl⟩ := zz; replace zv := C6.carry zv hb; have zz := zv; obtain ⟨zv_c0, zv_c1, zv_c2, zv_c3, zv_c4, zv_c5, zv_fz, zv_lt⟩ := zz) | (go_at_call 27; (with_reducible refine Calls.mono (K3.out _) ?_); rintro r w2 ⟨rfl, hb⟩; replace hB := hB.trans (hb.mono hB.size); have hz := hb.size; replace za := C9.carry za hb; have zz := za; obtain ⟨za_x0, za_x1, za_x2, za_x3, za_x4, za_x5, za_x6, za_x7, za_x8, za_xf, za_xl⟩ := zz; replace zv := C6.carry zv hb; have zz := zv; obtain ⟨zv_c0, zv_c1, zv_c2, zv_c3, zv_c4, zv_c5, zv_fz, zv_lt⟩ := zz))
    all_goals go_ret
    all_goals exact ⟨rfl, hB⟩
  · rw [hv] at k3
    cases hF : fvB f al si alt ze wi gr pr t k i n c e x
    · rw [show fvW f al si alt ze wi gr pr t k i n c e x = [] by unfold fvW; rw [hF]; rfl, hF] at k1 k2
      have hor : suitW (vSp f al si wi gr pr t) al si alt ze gr pr t k = false ∨ t = ⟨#[99]⟩ := by
        unfold fvB at hF
        rw [hv, Bool.true_and] at hF
        simp only [Bool.and_eq_false_iff, Bool.not_eq_false', Bool.and_eq_true] at hF
        rcases hF with h | h
        · exact .inl h
        · refine .inr ?_
          have e := of_list t
          rw [eq_of_beq h.2.1] at e
          exact e
      clear hF hv
      cases hs : suitW (vSp f al si wi gr pr t) al si alt ze gr pr t k
      · rw [hs] at k4
        clear hs hor
        have K1 := Lib.hid k1; have K2 := Lib.hid k2; have K3 := Lib.hid k3; have K4 := Lib.hid k4
        clear k1 k2 k3 k4
        go_wp2_with (first | (go_at_call 16; (with_reducible refine Calls.mono (K1.out _ (hT.on hB) (hD.on hB)) ?_); rintro r w2 ⟨rfl, hb⟩; replace hB := hB.trans (hb.mono hB.size); have hz := hb.size; replace za := C9.carry za hb; have zz := za; obtain ⟨za_x0, za_x1, za_x2, za_x3, za_x4, za_x5, za_x6, za_x7, za_x8, za_xf, za_xl⟩ := zz; replace zv := C6.carry zv hb; have zz := zv; obtain ⟨zv_c0, zv_c1, zv_c2, zv_c3, zv_c4, zv_c5, zv_fz, zv_lt⟩ := zz) | (go_at_call 31; (with_reducible refine Calls.mono (K2.out _) ?_); rintro r w2 ⟨rfl, hb⟩; replace hB := hB.trans (hb.mono hB.size); have hz := hb.size; replace za := C9.carry za hb; have zz := za; obtain ⟨za_x0, za_x1, za_x2, za_x3, za_x4, za_x5, za_x6, za_x7, za_x8, za_xf, za_xl⟩ := zz; replace zv := C6.carry zv hb; have zz := zv; obtain ⟨zv_c0, zv_c1, zv_c2, zv_c3, zv_c4, zv_c5, zv_fz, zv_lt⟩ := zz) | (go_at_call 27; (with_reducible refine Calls.mono (K3.out _) ?_); rintro r w2 ⟨rfl, hb⟩; replace hB := hB.trans (hb.mono hB.size); have hz := hb.size; replace za := C9.carry za hb; have zz := za; obtain ⟨za_x0, za_x1, za_x2, za_x3, za_x4, za_x5, za_x6, za_x7, za_x8, za_xf, za_xl⟩ := zz; replace zv := C6.carry zv hb; have zz := zv; obtain ⟨zv_c0, zv_c1, zv_c2, zv_c3, zv_c4, zv_c5, zv_fz, zv_lt⟩ := zz) | (go_at_call 15; (with_reducible refine Calls.mono (K4.out _) ?_); rintro r w2 ⟨rfl, hb⟩; replace hB := hB.trans (hb.mono hB.size); have hz := hb.size; replace za := C9.carry za hb; have zz := za; obtain ⟨za_x0, za_x1, za_x2, za_x3, za_x4, za_x5, za_x6, za_x7, za_x8, za_xf, za_xl⟩ := zz; replace zv := C6.carry zv hb; have zz := zv; obtain ⟨zv_c0, zv_c1, zv_c2, zv_c3, zv_c4, zv_c5, zv_fz, zv_lt⟩ := zz))
        all_goals go_ret
        all_goals exact ⟨rfl, hB⟩
      · rw [hs] at k4
        obtain rfl : t = ⟨#[99]⟩ := by
          rcases hor with h | h
          · rw [hs] at h; cases h
          · exact h
        clear hs hor
        have K1 := Lib.hid k1; have K2 := Lib.hid k2; have K3 := Lib.hid k3; have K4 := Lib.hid k4
        clear k1 k2 k3 k4
        go_wp2_with (first | (go_at_call 16; (with_reducible refine Calls.mono (K1.out _ (hT.on hB) (hD.on hB)) ?_); rintro r w2 ⟨rfl, hb⟩; replace hB := hB.trans (hb.mono hB.size); have hz := hb.size; replace za := C9.carry za hb; have zz := za; obtain ⟨za_x0, za_x1, za_x2, za_x3, za_x4, za_x5, za_x6, za_x7, za_x8, za_xf, za_xl⟩ := zz; replace zv := C6.carry zv hb; have zz := zv; obtain ⟨zv_c0, zv_c1, zv_c2, zv_c3, zv_c4, zv_c5, zv_fz, zv_lt⟩ := zz) | (go_at_call 31; (with_reducible refine Calls.mono (K2.out _) ?_); rintro r w2 ⟨rfl, hb⟩; replace hB := hB.trans (hb.mono hB.size); have hz := hb.size; replace za := C9.carry za hb; have zz := za; obtain ⟨za_x0, za_x1, za_x2, za_x3, za_x4, za_x5, za_x6, za_x7, za_x8, za_xf, za_xl⟩ := zz; replace zv := C6.carry zv hb; have zz := zv; obtain ⟨zv_c0, zv_c1, zv_c2, zv_c3, zv_c4, zv_c5, zv_fz, zv_lt⟩ := zz) | (go_at_call 27; (with_reducible refine Calls.mono (K3.out _) ?_); rintro r w2 ⟨rfl, hb⟩; replace hB := hB.trans (hb.mono hB.size); have hz := hb.size; replace za := C9.carry za hb; have zz := za; obtain ⟨za_x0, za_x1, za_x2, za_x3, za_x4, za_x5, za_x6, za_x7, za_x8, za_xf, za_xl⟩ := zz; replace zv := C6.carry zv hb; have zz := zv; obtain ⟨zv_c0, zv_c1, zv_c2, zv_c3, zv_c4, zv_c5, zv_fz, zv_lt⟩ := zz) | (go_at_call 15; (with_reducible refine Calls.mono (K4.out _) ?_); rintro r w2 ⟨rfl, hb⟩; replace hB := hB.trans (hb.mono hB.size); have hz := hb.size; replace za := C9.carry za hb; have zz := za; obtain ⟨za_x0, za_x1, za_x2, za_x3, za_x4, za_x5, za_x6, za_x7, za_x8, za_xf, za_xl⟩ := zz; replace zv := C6.carry zv hb; have zz := zv; obtain ⟨zv_c0, zv_c1, zv_c2, zv_c3, zv_c4, zv_c5, zv_fz, zv_lt⟩ := zz))
        all_goals go_ret
        all_goals exact ⟨rfl, hB⟩
    · have hW : fvW f al si alt ze wi gr pr t k i n c e x = fvT f al si alt ze wi gr pr t k i n c e x := by unfold fvW; rw [hF]; rfl
      rw [hW, hF] at k1 k2
      clear hW
      have hs : suitW (vSp f al si wi gr pr t) al si alt ze gr pr t k = true := by
        unfold fvB at hF
        rw [hv, Bool.true_and] at hF
        simp only [Bool.and_eq_true] at hF
        exact hF.1
      clear hF
      rcases kind_of hv with rfl | rfl | rfl
      · have hi : inr i (-999999999999) 999999999999 = true := by
          unfold vvB at hv
          rw [if_pos rfl] at hv
          simp only [Bool.and_eq_true] at hv
          exact hv.1
        have k5 := fun W h => FormatWhole_any f al si alt ze wi gr pr t i W h
        rw [show fwOk (vSp f al si wi gr pr t) al si alt ze gr pr t i = true by unfold fwOk; rw [hs, hi]; rfl, show fwR true f al si alt ze wi gr t.data.toList i = fvT f al si alt ze wi gr pr t 0 i n c e x from rfl] at k5
        generalize fvT f al si alt ze wi gr pr t 0 i n c e x = X at *
        clear hv hs hi
        have K1 := Lib.hid k1; have K2 := Lib.hid k2; have K3 := Lib.hid k3; have K5 := Lib.hid k5
        clear k1 k2 k3 k5
        go_wp2_with (first | (go_at_call 16; (with_reducible refine Calls.mono (K1.out _ (hT.on hB) (hD.on hB)) ?_); rintro r w2 ⟨rfl, hb⟩; replace hB := hB.trans (hb.mono hB.size); have hz := hb.size; replace za := C9.carry za hb; have zz := za; obtain ⟨za_x0, za_x1, za_x2, za_x3, za_x4, za_x5, za_x6, za_x7, za_x8, za_xf, za_xl⟩ := zz; replace zv := C6.carry zv hb; have zz := zv; obtain ⟨zv_c0, zv_c1, zv_c2, zv_c3, zv_c4, zv_c5, zv_fz, zv_lt⟩ := zz) | (go_at_call 31; (with_reducible refine Calls.mono (K2.out _) ?_); rintro r w2 ⟨rfl, hb⟩; replace hB := hB.trans (hb.mono hB.size); have hz := hb.size; replace za := C9.carry za hb; have zz := za; obtain ⟨za_x0, za_x1, za_x2, za_x3, za_x4, za_x5, za_x6, za_x7, za_x8, za_xf, za_xl⟩ := zz; replace zv := C6.carry zv hb; have zz := zv; obtain ⟨zv_c0, zv_c1, zv_c2, zv_c3, zv_c4, zv_c5, zv_fz, zv_lt⟩ := zz) | (go_at_call 27; (with_reducible refine Calls.mono (K3.out _) ?_); rintro r w2 ⟨rfl, hb⟩; replace hB := hB.trans (hb.mono hB.size); have hz := hb.size; replace za := C9.carry za hb; have zz := za; obtain ⟨za_x0, za_x1, za_x2, za_x3, za_x4, za_x5, za_x6, za_x7, za_x8, za_xf, za_xl⟩ := zz; replace zv := C6.carry zv hb; have zz := zv; obtain ⟨zv_c0, zv_c1, zv_c2, zv_c3, zv_c4, zv_c5, zv_fz, zv_lt⟩ := zz) | (go_at_call 32; (with_reducible refine Calls.mono (K5.out _ (hD.on hB)) ?_); rintro r w2 ⟨rfl, hb⟩; replace hB := hB.trans (hb.mono hB.size); have hz := hb.size; replace za := C9.carry za hb; have zz := za; obtain ⟨za_x0, za_x1, za_x2, za_x3, za_x4, za_x5, za_x6, za_x7, za_x8, za_xf, za_xl⟩ := zz; replace zv := C6.carry zv hb; have zz := zv; obtain ⟨zv_c0, zv_c1, zv_c2, zv_c3, zv_c4, zv_c5, zv_fz, zv_lt⟩ := zz))
        all_goals go_ret
        all_goals exact ⟨rfl, hB⟩
      · have hd : Fd.vld ⟨n, c, e⟩ = true := by
          unfold vvB at hv
          rw [if_neg (by decide), if_pos rfl] at hv
          simp only [Bool.and_eq_true] at hv
          exact hv.2.1
        have hr : rOk f al si alt ze wi gr pr t n c e = true := by
          unfold suitW at hs
          simp only [Bool.and_eq_true] at hs
          unfold rOk grB
          rw [hs.1, hs.2, hd]
          rfl
        have k5 := fun W h => FormatReal_any f al si alt ze wi gr pr t n c e W h
        rw [hr, show frX true f al si alt ze wi gr pr t n c e = fvT f al si alt ze wi gr pr t 1 i n c e x from rfl] at k5
        generalize fvT f al si alt ze wi gr pr t 1 i n c e x = X at *
        clear hv hs hd hr
        have K1 := Lib.hid k1; have K2 := Lib.hid k2; have K3 := Lib.hid k3; have K5 := Lib.hid k5
        clear k1 k2 k3 k5
        go_wp2_with (first | (go_at_call 16; (with_reducible refine Calls.mono (K1.out _ (hT.on hB) (hD.on hB)) ?_); rintro r w2 ⟨rfl, hb⟩; replace hB := hB.trans (hb.mono hB.size); have hz := hb.size; replace za := C9.carry za hb; have zz := za; obtain ⟨za_x0, za_x1, za_x2, za_x3, za_x4, za_x5, za_x6, za_x7, za_x8, za_xf, za_xl⟩ := zz; replace zv := C6.carry zv hb; have zz := zv; obtain ⟨zv_c0, zv_c1, zv_c2, zv_c3, zv_c4, zv_c5, zv_fz, zv_lt⟩ := zz) | (go_at_call 31; (with_reducible refine Calls.mono (K2.out _) ?_); rintro r w2 ⟨rfl, hb⟩; replace hB := hB.trans (hb.mono hB.size); have hz := hb.size; replace za := C9.carry za hb; have zz := za; obtain ⟨za_x0, za_x1, za_x2, za_x3, za_x4, za_x5, za_x6, za_x7, za_x8, za_xf, za_xl⟩ := zz; replace zv := C6.carry zv hb; have zz := zv; obtain ⟨zv_c0, zv_c1, zv_c2, zv_c3, zv_c4, zv_c5, zv_fz, zv_lt⟩ := zz) | (go_at_call 27; (with_reducible refine Calls.mono (K3.out _) ?_); rintro r w2 ⟨rfl, hb⟩; replace hB := hB.trans (hb.mono hB.size); have hz := hb.size; replace za := C9.carry za hb; have zz := za; obtain ⟨za_x0, za_x1, za_x2, za_x3, za_x4, za_x5, za_x6, za_x7, za_x8, za_xf, za_xl⟩ := zz; replace zv := C6.carry zv hb; have zz := zv; obtain ⟨zv_c0, zv_c1, zv_c2, zv_c3, zv_c4, zv_c5, zv_fz, zv_lt⟩ := zz) | (go_at_call 18; (with_reducible refine Calls.mono (K5.out _ (hT.on hB)) ?_); rintro r w2 ⟨rfl, hb⟩; replace hB := hB.trans (hb.mono hB.size); have hz := hb.size; replace za := C9.carry za hb; have zz := za; obtain ⟨za_x0, za_x1, za_x2, za_x3, za_x4, za_x5, za_x6, za_x7, za_x8, za_xf, za_xl⟩ := zz; replace zv := C6.carry zv hb; have zz := zv; obtain ⟨zv_c0, zv_c1, zv_c2, zv_c3, zv_c4, zv_c5, zv_fz, zv_lt⟩ := zz))
        all_goals go_ret
        all_goals exact ⟨rfl, hB⟩
      · have hd : vtB x = true := by
          unfold vvB at hv
          rw [if_neg (by decide), if_neg (by decide), if_pos rfl] at hv
          simp only [Bool.and_eq_true] at hv
          exact hv.2.2
        have k5 := fun W => FormatText_any f al si alt ze wi gr pr t x hx W
        rw [hs, hd, show fmW (true && true) f al ze wi pr x = ⟨(fvT f al si alt ze wi gr pr t 2 i n c e x).toArray⟩ from (list_of _).symm] at k5
        generalize fvT f al si alt ze wi gr pr t 2 i n c e x = X at *
        clear hv hs hd
        have K1 := Lib.hid k1; have K2 := Lib.hid k2; have K3 := Lib.hid k3; have K5 := Lib.hid k5
        clear k1 k2 k3 k5
        go_wp2_with (first | (go_at_call 16; (with_reducible refine Calls.mono (K1.out _ (hT.on hB) (hD.on hB)) ?_); rintro r w2 ⟨rfl, hb⟩; replace hB := hB.trans (hb.mono hB.size); have hz := hb.size; replace za := C9.carry za hb; have zz := za; obtain ⟨za_x0, za_x1, za_x2, za_x3, za_x4, za_x5, za_x6, za_x7, za_x8, za_xf, za_xl⟩ := zz; replace zv := C6.carry zv hb; have zz := zv; obtain ⟨zv_c0, zv_c1, zv_c2, zv_c3, zv_c4, zv_c5, zv_fz, zv_lt⟩ := zz) | (go_at_call 31; (with_reducible refine Calls.mono (K2.out _) ?_); rintro r w2 ⟨rfl, hb⟩; replace hB := hB.trans (hb.mono hB.size); have hz := hb.size; replace za := C9.carry za hb; have zz := za; obtain ⟨za_x0, za_x1, za_x2, za_x3, za_x4, za_x5, za_x6, za_x7, za_x8, za_xf, za_xl⟩ := zz; replace zv := C6.carry zv hb; have zz := zv; obtain ⟨zv_c0, zv_c1, zv_c2, zv_c3, zv_c4, zv_c5, zv_fz, zv_lt⟩ := zz) | (go_at_call 27; (with_reducible refine Calls.mono (K3.out _) ?_); rintro r w2 ⟨rfl, hb⟩; replace hB := hB.trans (hb.mono hB.size); have hz := hb.size; replace za := C9.carry za hb; have zz := za; obtain ⟨za_x0, za_x1, za_x2, za_x3, za_x4, za_x5, za_x6, za_x7, za_x8, za_xf, za_xl⟩ := zz; replace zv := C6.carry zv hb; have zz := zv; obtain ⟨zv_c0, zv_c1, zv_c2, zv_c3, zv_c4, zv_c5, zv_fz, zv_lt⟩ := zz) | (go_at_call 33; (with_reducible refine Calls.mono (K5.out _) ?_); rintro r w2 ⟨rfl, hb⟩; replace hB := hB.trans (hb.mono hB.size); have hz := hb.size; replace za := C9.carry za hb; have zz := za; obtain ⟨za_x0, za_x1, za_x2, za_x3, za_x4, za_x5, za_x6, za_x7, za_x8, za_xf, za_xl⟩ := zz; replace zv := C6.carry zv hb; have zz := zv; obtain ⟨zv_c0, zv_c1, zv_c2, zv_c3, zv_c4, zv_c5, zv_fz, zv_lt⟩ := zz))
        all_goals go_ret
        all_goals exact ⟨rfl, hB⟩

def FnFormatValue_LL : List (String × DataW Unit) := [("math/bits.deBruijn32tab", Rows.laid_math_bits_deBruijn32tab), ("math/bits.deBruijn64tab", Rows.laid_math_bits_deBruijn64tab), ("internal/strconv.uint64pow10", Rows.laid_internal_strconv_uint64pow10), ("unicode/utf8.acceptRanges", Rows.laid_unicode_utf8_acceptRanges), ("unicode.CaseRanges", Rows.laid_unicode_CaseRanges), ("unicode/utf8.first", Rows.laid_unicode_utf8_first)]

set_option maxRecDepth 100000 in
theorem FnFormatValue_lifted (os : Os) (started : os.Started) (H : Type) (enc : TypeId × Value → H) :
    ReturnsInHanded {} Tryz.checked os 9 .any (fun w args => (Rows.fnFormatValueSpec.pre enc Tryz.prog Tryz.f9 [] false w args ∧ laidMetH Tryz.prog FnFormatValue_LL w) ∧ sizedMet enc Tryz.prog Tryz.f9 (OpenSpec.ofChange Rows.fnFormatValueSpec) false w args) (Rows.fnFormatValueSpec.post enc Tryz.prog Tryz.f9 false true false false) := by
  refine returnsInHanded_of_change_and (C := Tryz.checked) (X := fun w _ => laidMetH Tryz.prog FnFormatValue_LL w) (fun _ _ _ hh h => h.of_heap hh) Tryz.own started (by kernel_rfl) Tryz.func9
    (ChangeSpec.witness_shaped (enc := enc) (C := Tryz.checked) (os := os) (X := fun w _ => laidMetH Tryz.prog FnFormatValue_LL w) false (World.laidAll Tryz.prog os FnFormatValue_LL) #[.slice none 0 0] 8 (World.laidAll_os _ _ _) (World.shaped_of_ZipB (by kernel_rfl) (by kernel_rfl)) (by kernel_rfl) (by kernel_rfl) (by kernel_rfl)
      (by rw [MakeChecks.laidMetH_plain _ _ _ (by kernel_rfl)]; exact laidMet_laidAll _ (by kernel_rfl) (by kernel_rfl))) ?_
  intro W base args ds gs before hval0 hW _ _ hL _
  rw [MakeChecks.laidMetH_plain _ _ _ (by kernel_rfl)] at hL
  have hT := p10_is hL
  have hD := dt_ofZ hL
  have hval : ∀ (j : Nat) t v, Tryz.f9.params[j]? = some t → args[j]? = some v → Value.okWide Tryz.prog W .any base t v := hval0
  have hW' := hW
  obtain ⟨p, q, hA0, hV, rfl, hfz, hnd⟩ := hW
  have hA : DataW.TrodAll enc Tryz.prog W 0 (fun _ => true) true Tryz.f9.params.toList args.toList ds p := hA0
  rw [Tryz.params9] at hA hval
  obtain ⟨v0, d0, rfl, rfl, h0⟩ := trodAll_one hA
  obtain ⟨rfl, rfl⟩ := trodVars_none hV
  obtain ⟨s, len, cap, rfl, hcap, hcode⟩ := open_code (hval 0 22 v0 rfl rfl) h0
  clear hA0 hval0
  have hlt := fun x hx => hW'.lt x hx
  refine (FnFormatValue_law s len cap W hT hD hcode hcap).mono fun e_ W' ⟨he, hb⟩ => ?_
  subst he
  exact ⟨_, rfl, post_of_below (pa := p) (pv := []) hW' (fun _ _ _ => trodAll_mk1 (shut_bool Tryz.underlying4 true)) (fun sp hsp => trodAll_mk1 (code_back h0 hb (fun x hx => hlt x (by simp [hx])) (fun x hx => hsp x (by simp [hx])))) (fun _ _ => rfl) (by simp) hb (ok_one (by kernel_rfl) rfl (okWide_bool_mk Tryz.underlying4 true))⟩


theorem and_t {a b : Bool} (h : a = true) (k : b = true) : (a && b) = true := by rw [h, k]; rfl
theorem FnFormatValue_q1 : (Rows.fnFormatValueRow.wf (OpenSpec.ofChange Rows.fnFormatValueSpec)) = true := by kernel_rfl
theorem FnFormatValue_q2 : (laidOutB Tryz.prog) = true := by kernel_rfl
theorem FnFormatValue_q3 : (mapsRowed Tryz.prog) = true := by kernel_rfl
theorem FnFormatValue_q4 : (Tryz.f9.params.all (Tryz.prog.readableRec ·)) = true := by kernel_rfl
theorem FnFormatValue_q5 : (namedTie Tryz.prog Rows.fnFormatValueRow.named Rows.fnFormatValueSpec.vars) = true := by kernel_rfl
theorem FnFormatValue_q6 : ((Rows.fnFormatValueRow.stops == [])) = true := by kernel_rfl
theorem FnFormatValue_q7 : ((Tryz.prog.stops == [])) = true := by kernel_rfl
theorem FnFormatValue_q8 : ((Rows.fnFormatValueRow.knobs == [])) = true := by kernel_rfl
theorem FnFormatValue_q9 : ((Tryz.prog.stopKnobs == [])) = true := by kernel_rfl
theorem FnFormatValue_q10 : ((Rows.fnFormatValueRow.inPlace == Tryz.prog.inPlace 9)) = true := by kernel_rfl
theorem FnFormatValue_q11 : ((Rows.fnFormatValueRow.unfollowed == Tryz.prog.unfollowed 9)) = true := by kernel_rfl
theorem FnFormatValue_q12 : ((Rows.fnFormatValueRow.recurses == Tryz.prog.recurses 9)) = true := by kernel_rfl
theorem FnFormatValue_q13 : ((Rows.fnFormatValueRow.named == Tryz.prog.varsNamed 9)) = true := by kernel_rfl
theorem FnFormatValue_q14 : ((Rows.fnFormatValueRow.maps == (Tryz.f9.params.toList ++ Rows.fnFormatValueSpec.plain.varTypes Tryz.prog).any (Tryz.prog.mapsRec ·))) = true := by kernel_rfl
theorem FnFormatValue_q15 : ((Rows.fnFormatValueRow.ifaces == (Tryz.f9.params.toList ++ Rows.fnFormatValueSpec.plain.varTypes Tryz.prog).any (Tryz.prog.ifacesRec ·))) = true := by kernel_rfl
theorem FnFormatValue_q16 : ((Rows.fnFormatValueRow.mapsOut == Tryz.prog.mapsAmong Tryz.f9.resultTypes.toList)) = true := by kernel_rfl
theorem FnFormatValue_q17 : ((Rows.fnFormatValueRow.loops == (Tryz.f9.params.toList ++ Rows.fnFormatValueSpec.plain.varTypes Tryz.prog).any (Tryz.prog.loopsFrom ·))) = true := by kernel_rfl
theorem FnFormatValue_q18 : ((Rows.fnFormatValueRow.wideKeys == (Tryz.f9.params.toList ++ Rows.fnFormatValueSpec.plain.varTypes Tryz.prog ++ Tryz.f9.resultTypes.toList).any (Tryz.prog.wideKeysFrom ·))) = true := by kernel_rfl
theorem FnFormatValue_q19 : (Rows.fnFormatValueSpec.vars.all (Tryz.prog.varReadable ·)) = true := by kernel_rfl
theorem FnFormatValue_q20 : (Tryz.f9.resultTypes.all (fun t => Tryz.prog.readableRec t && decide (t < Tryz.prog.types.size))) = true := by kernel_rfl
theorem FnFormatValue_q21 : ((Rows.fnFormatValueRow.ifacesOut == Tryz.f9.resultTypes.toList.any (Tryz.prog.ifacesRec ·))) = true := by kernel_rfl
theorem FnFormatValue_q22 : ((Rows.fnFormatValueRow.loopsOut == Tryz.f9.resultTypes.toList.any (Tryz.prog.loopsFrom ·))) = true := by kernel_rfl
theorem FnFormatValue_q23 : ((Rows.fnFormatValueRow.plainKeys == Tryz.prog.plainKeys)) = true := by kernel_rfl
theorem FnFormatValue_q24 : (Rows.fnFormatValueRow.shortTexts.isNone) = true := by kernel_rfl
theorem FnFormatValue_q25 : (Tryz.prog.stopsHeard) = true := by kernel_rfl
theorem FnFormatValue_q26 : (Tryz.prog.mayEnter) = true := by kernel_rfl
theorem FnFormatValue_q27 : ((Rows.fnFormatValueRow.lifted == Tryz.prog.liftsFinal)) = true := by kernel_rfl
theorem FnFormatValue_q28 : ((Tryz.prog.make == some Rows.fnFormatValueRow.make)) = true := by kernel_rfl
theorem FnFormatValue_q29 : ((Rows.fnFormatValueRow.kinds == (if Rows.fnFormatValueRow.domain.isEmpty then [] else Tryz.f9.params.toList.map fun t => match Tryz.prog.underlying t with | some (.int k) => some k | _ => none))) = true := by kernel_rfl
theorem FnFormatValue_q30 : ((Rows.fnFormatValueRow.pinned == Rows.fnFormatValueRow.pinnedBy)) = true := by kernel_rfl
theorem FnFormatValue_q31 : ((Rows.fnFormatValueRow.veiled == (Tryz.f9.params.toList ++ Rows.fnFormatValueSpec.plain.varTypes Tryz.prog ++ Tryz.f9.resultTypes.toList).any (Tryz.prog.veiledRec ·))) = true := by kernel_rfl
theorem FnFormatValue_q32 : (Rows.fnFormatValueRow.veiledFits Tryz.prog Tryz.f9.params.toList (Tryz.f9.params.toList ++ Rows.fnFormatValueSpec.plain.varTypes Tryz.prog ++ Tryz.f9.resultTypes.toList)) = true := by kernel_rfl
set_option maxRecDepth 100000 in
theorem FnFormatValue_jf : joinedFacts Tryz.prog 9 Tryz.f9 Rows.fnFormatValueSpec Rows.fnFormatValueRow = true := by
  unfold joinedFacts
  exact and_t (and_t (and_t (and_t (and_t (and_t (and_t (and_t (and_t (and_t (and_t (and_t (and_t (and_t (and_t (and_t (and_t (and_t (and_t (and_t (and_t (and_t (and_t (and_t (and_t (and_t (and_t (and_t (and_t (and_t (and_t (FnFormatValue_q1) FnFormatValue_q2) FnFormatValue_q3) FnFormatValue_q4) FnFormatValue_q5) FnFormatValue_q6) FnFormatValue_q7) FnFormatValue_q8) FnFormatValue_q9) FnFormatValue_q10) FnFormatValue_q11) FnFormatValue_q12) FnFormatValue_q13) FnFormatValue_q14) FnFormatValue_q15) FnFormatValue_q16) FnFormatValue_q17) FnFormatValue_q18) FnFormatValue_q19) FnFormatValue_q20) FnFormatValue_q21) FnFormatValue_q22) FnFormatValue_q23) FnFormatValue_q24) FnFormatValue_q25) FnFormatValue_q26) FnFormatValue_q27) FnFormatValue_q28) FnFormatValue_q29) FnFormatValue_q30) FnFormatValue_q31) FnFormatValue_q32
theorem FnFormatValue_fn : Tryz.prog.funcNamed Rows.fnFormatValueRow.func = some 9 := by kernel_rfl
theorem FnFormatValue_fn2 : Tryz.prog.funcNamed "loop.example/formatplans/laws.FnFormatValue" = some 9 := by kernel_rfl
theorem FnFormatValue_lo : false = Tryz.prog.looks [] := by kernel_rfl
theorem FnFormatValue_wf : Rows.fnFormatValueRow.wfByText (OpenSpec.ofChange Rows.fnFormatValueSpec) = true := by kernel_rfl
theorem FnFormatValue_go : false = Rows.fnFormatValueRow.goesBy Tryz.prog := by kernel_rfl
theorem FnFormatValue_wr : Tryz.f9.isWrapper Tryz.prog Rows.fnFormatValueRow.wrapper Rows.fnFormatValueRow.mainSum := by unfold Func.isWrapper; first | (rw [if_pos (by decide +kernel)]; kernel_rfl) | (rw [if_neg (by decide +kernel)]; exact ⟨rfl, rfl⟩)
theorem FnFormatValue_mi : Tryz.prog.mainIs = some (true, "6933efefb6e096d9a2a014b580faf256fe9a780daa6d240b09c62b53f6401334".toList) := by kernel_rfl
theorem FnFormatValue_st : ([22].all fun u => !Tryz.prog.wantsStandIn u) = true := by kernel_rfl
theorem FnFormatValue_holds : Rows.FnFormatValueSaid :=
  OpenClaim.holds_of_wide 9 Tryz.f9 rfl rfl rfl rfl rfl rfl rfl ⟨rfl, rfl, rfl, rfl, rfl⟩ rfl rfl rfl rfl rfl FnFormatValue_fn Tryz.func9 FnFormatValue_jf
    (of_decide_eq_true (by kernel_rfl)) FnFormatValue_wr
    (fun os started H enc _ => FnFormatValue_lifted os started H enc)

theorem FnFormatValue_card : Rows.FnFormatValueCardSaid :=
  Claim7.holds_tied_plain_at .later [] [.data, .data, .data, .data, .pinned, .pinned] true (true, "6933efefb6e096d9a2a014b580faf256fe9a780daa6d240b09c62b53f6401334") false
    FnFormatValue_holds (fun _ h => by cases h) FnFormatValue_wf (fun _ h => by cases h) fnFormatValue_row_tie rfl ⟨rfl, rfl⟩ FnFormatValue_mi rfl
    (fun f fn hf hfn => by
      obtain rfl : f = 9 := Option.some.inj (FnFormatValue_fn2.symm.trans hf) |>.symm
      obtain rfl : fn = Tryz.f9 := (Option.some.inj (Tryz.func9.symm.trans hfn)).symm
      exact ⟨FnFormatValue_lo, fun j t ht => by
        rw [Tryz.params9] at ht
        have hm : t ∈ [22] := by simpa using Array.mem_of_getElem? ht
        have hall := FnFormatValue_st
        exact (show Tryz.prog.wantsStandIn t = false by simpa using List.all_eq_true.1 hall t hm)⟩)
    FnFormatValue_go
end Go.Proofs.YtejganoipbblcaaGreatDoor
