/- Promise 38: proved for every input. No condition. The tables of the library that the row lists are tied to their text, or pinned. -/
import Derived.Test.YtejganoipbblcaaGreatDoorGP
import Derived.Test.YtejganoipbblcaaGreatDoorRC
import Derived.Test.YtejganoipbblcaaGreatDoorZ10
import Derived.Test.YtejganoipbblcaaGreatDoorN8
import Derived.Test.YtejganoipbblcaaGreatDoorTie
import Derived.Test.YtejganoipbblcaaGreatDoorCards
import Derived.LaidMore
import Derived.Lib.LaidTab
import Derived.Stop.LaidErr
import Derived.Handy
import Derived.Deep.LoopGhost
import Derived.Lay
import Derived.OpenShut
import Derived.Stop.Joined
import Derived.SevenTiedAt
namespace Go.Proofs.YtejganoipbblcaaGreatDoor
open Go Go.ChangeShapes Go.WideShapes Go.ChangeAt Go.WideMaps Go.WideElems Go.RowKit Go.Joins Go.ChangeMaps
theorem drop_any (s : ByteArray) (c : UInt8) (w : World) (hs : s.size ≤ 1000) :
    Calls Tryz.prog 25 #[.string s, .int .u8 c.toNat] w fun r w' => r = .returned (.string ⟨(wo c s.data.toList).toArray⟩) ∧ w = w' := by
  go_enter Tryz.func25, Tryz.ntmps25
  go_wp2
  go_loopg [5, 6] s.size (fun g s4 s5 wr => ∃ (k : Nat) (out : List UInt8), wr = w ∧ s4 = .string ⟨out.toArray⟩ ∧ s5 = .int .i64 k ∧ k ≤ s.size ∧ out.length ≤ k ∧ Aside (out ++ wo c (s.data.toList.drop k) = wo c s.data.toList) ∧ Aside (g = s.size - k))
  case atStart => exact ⟨0, [], rfl, rfl, rfl, by omega, by simp, by show _ = _; simp, by show _ = _; omega⟩
  case round =>
    obtain ⟨k, out, rfl, rfl, rfl, hk, ho, hG, hg⟩ := hrel
    have hG' := hG.out
    have hg' := hg.out
    clear hG hg
    by_cases hlt : k < s.size
    · have i1 : (k : Int) < s.size := by omega
      have i2 : (k : Int) + 1 ≤ s.size := by omega
      have T1 := wo_step c hlt
      by_cases hc : s[k] = c
      · rw [if_pos (by simp [hc]), List.nil_append] at T1
        rw [T1] at hG'
        have e1 : ((s[k].toNat : Int) == (c.toNat : Int)) = true := by rw [hc]; simp
        have e2 : ((s[k].toNat : Int) != (c.toNat : Int)) = false := by simp [bne, e1]
        have HG := Lib.hid hG'
        clear hG' T1 hc
        go_wp2
        go_roundg (s.size - (k + 1))
        case measure => omega
        case rel => exact ⟨k + 1, out, rfl, rfl, by go_num, by omega, by omega, HG.out, rfl⟩
      · rw [if_neg (by simp [hc])] at T1
        rw [T1] at hG'
        have e0 : ¬ ((s[k].toNat : Int) = (c.toNat : Int)) := fun e => hc (UInt8.toNat_inj.1 (by omega))
        have e1 : ((s[k].toNat : Int) == (c.toNat : Int)) = false := by simpa using e0
        have e2 : ((s[k].toNat : Int) != (c.toNat : Int)) = true := by simp [bne, e1]
        have HG := Lib.hid hG'
        clear hG' T1 hc
        go_wp2
        go_roundg (s.size - (k + 1))
        case measure => omega
        case rel => exact ⟨k + 1, out ++ [s[k]], rfl, by rw [cat_one out hlt], by go_num, by omega, by simp; omega, by show _ = _; rw [List.append_assoc]; exact HG.out, rfl⟩
    · have i1 : ¬ (k : Int) < s.size := by omega
      have hll : s.data.toList.length = s.size := by rw [Array.length_toList]; rfl
      rw [List.drop_eq_nil_of_le (by omega)] at hG'
      have e : out = wo c s.data.toList := by simpa [wo] using hG'
      subst e
      clear hG'
      go_wp2
      go_ret
      exact ⟨rfl, rfl⟩

set_option maxRecDepth 100000 in
set_option maxHeartbeats 16000000 in
theorem FnFormatRealGroup_law (s : Option Addr) (len cap : Nat) (w : World) (hT : PT w) (hcode : CodeAt s len w.heap.size w) (hcap : len ≤ cap) :
    Calls Tryz.prog 7 #[.slice s len cap] w fun r w' => r = .returned (.bool true) ∧ Below w.heap.size w w' := by
  by_cases hl : 1048576 < len
  · go_enter Tryz.func7, Tryz.ntmps7
    go_wp2
    go_ret
    exact ⟨rfl, (by repeat (first | with_reducible exact Below.refl _ _ | with_reducible assumption | with_reducible refine Below.setCell ?_ (by first | omega | (simp; done) | (simp <;> omega)) _ | with_reducible refine below_drewN ?_ _ | with_reducible refine Below.drew ?_ | with_reducible refine Below.alloc ?_ (by first | omega | (simp; done) | (simp <;> omega)) _))⟩
  go_enter Tryz.func7, Tryz.ntmps7
  go_wp2_with (go_at_call 17; (with_reducible refine Calls.mono (DrawFormatReal_any _ _ _ _ hcode hcap) ?_); rintro r w1 ⟨⟨f, al, si, alt, ze, wi, gr, pr, t, n, c, e, rfl⟩, hB⟩; have hz := hB.size)
  have k1 := fun W (h : PT W) => FormatReal_any f al si alt ze wi gr pr t n c e W h
  have k2 := fun W => FormatRealS_any f al si alt ze wi gr pr t n c e W
  have hXX : ∀ l : List UInt8, (l != l) = false := fun l => by simp
  have hXY : ∀ l : List UInt8, (l == l) = true := fun l => by simp
  have za := (C9.new w1 (.string f) (.int .i64 al) (.int .i64 si) (.bool alt) (.bool ze) (.int .i64 wi) (.int .i64 gr) (.int .i64 pr) (.string t) 24).up (.cells #[.bool n, .int .i64 c, .int .i64 e] 31)
  have zd : C3 ((w1.alloc (.cells #[.string f, .int .i64 al, .int .i64 si, .bool alt, .bool ze, .int .i64 wi, .int .i64 gr, .int .i64 pr, .string t] 24)).alloc (.cells #[.bool n, .int .i64 c, .int .i64 e] 31)) (w1.heap.size + 1) (.bool n) (.int .i64 c) (.int .i64 e) := by
    have h := C3.new (w1.alloc (.cells #[.string f, .int .i64 al, .int .i64 si, .bool alt, .bool ze, .int .i64 wi, .int .i64 gr, .int .i64 pr, .string t] 24)) (.bool n) (.int .i64 c) (.int .i64 e) 31
    rw [show (w1.alloc (.cells #[.string f, .int .i64 al, .int .i64 si, .bool alt, .bool ze, .int .i64 wi, .int .i64 gr, .int .i64 pr, .string t] 24)).heap.size = w1.heap.size + 1 by simp] at h
    exact h
  replace hB : Below w.heap.size w ((w1.alloc (.cells #[.string f, .int .i64 al, .int .i64 si, .bool alt, .bool ze, .int .i64 wi, .int .i64 gr, .int .i64 pr, .string t] 24)).alloc (.cells #[.bool n, .int .i64 c, .int .i64 e] 31)) := (hB.alloc (by omega) _).alloc (by simp; omega) _
  have zz := za
  obtain ⟨x0, x1, x2, x3, x4, x5, x6, x7, x8, xf, xl⟩ := zz
  have zz := zd
  obtain ⟨u0, u1, u2, u3, u4, u5, u6⟩ := zz
  by_cases hX : frX (rOk f al si alt ze wi gr pr t n c e) f al si alt ze wi gr pr t n c e = []
  · rw [hX] at k1 k2
    have K1 := Lib.hid k1; have K2 := Lib.hid k2
    clear k1 k2 hX
    go_wp2_with (first | (go_at_call 18; (with_reducible refine Calls.mono (K1.out _ (hT.on (by repeat (first | with_reducible exact Below.refl _ _ | with_reducible assumption | with_reducible refine Below.setCell ?_ (by first | omega | (simp; done) | (simp <;> omega)) _ | with_reducible refine below_drewN ?_ _ | with_reducible refine Below.drew ?_ | with_reducible refine Below.alloc ?_ (by first | omega | (simp; done) | (simp <;> omega)) _)))) ?_); rintro r w2 ⟨rfl, hb⟩; have hBN : Below w.heap.size w w2 := (by refine Below.trans ?_ (hb.mono (by first | omega | (simp; done) | (simp <;> omega))); repeat (first | with_reducible exact Below.refl _ _ | with_reducible assumption | with_reducible refine Below.setCell ?_ (by first | omega | (simp; done) | (simp <;> omega)) _ | with_reducible refine below_drewN ?_ _ | with_reducible refine Below.drew ?_ | with_reducible refine Below.alloc ?_ (by first | omega | (simp; done) | (simp <;> omega)) _)); clear hB; have hB := hBN; clear hBN; have hz := hB.size; have zN := C9.carry_of za (by repeat (first | with_reducible assumption | with_reducible apply C9.up | (with_reducible apply C9.far; (case hn => (first | omega | (simp; omega)))) | with_reducible apply C9.set0 | with_reducible apply C9.set1 | with_reducible apply C9.set2 | with_reducible apply C9.set3 | with_reducible apply C9.set4 | with_reducible apply C9.set5 | with_reducible apply C9.set6 | with_reducible apply C9.set7 | with_reducible apply C9.set8 | with_reducible apply C9.drew)) hb; clear za; have za := zN; clear zN; have zz := za; obtain ⟨x0, x1, x2, x3, x4, x5, x6, x7, x8, xf, xl⟩ := zz; have zN := C3.carry_of zd (by repeat (first | with_reducible assumption | with_reducible apply C3.up | (with_reducible apply C3.far; (first | omega | (simp; omega))) | with_reducible apply C3.drew)) hb; clear zd; have zd := zN; clear zN; have zz := zd; obtain ⟨u0, u1, u2, u3, u4, u5, u6⟩ := zz) | (go_at_call 19; (with_reducible refine Calls.mono (K2.out _) ?_); rintro r w2 ⟨rfl, hb⟩; have hBN : Below w.heap.size w w2 := (by refine Below.trans ?_ (hb.mono (by first | omega | (simp; done) | (simp <;> omega))); repeat (first | with_reducible exact Below.refl _ _ | with_reducible assumption | with_reducible refine Below.setCell ?_ (by first | omega | (simp; done) | (simp <;> omega)) _ | with_reducible refine below_drewN ?_ _ | with_reducible refine Below.drew ?_ | with_reducible refine Below.alloc ?_ (by first | omega | (simp; done) | (simp <;> omega)) _)); clear hB; have hB := hBN; clear hBN; have hz := hB.size; have zN := C9.carry_of za (by repeat (first | with_reducible assumption | with_reducible apply C9.up | (with_reducible apply C9.far; (case hn => (first | omega | (simp; omega)))) | with_reducible apply C9.set0 | with_reducible apply C9.set1 | with_reducible apply C9.set2 | with_reducible apply C9.set3 | with_reducible apply C9.set4 | with_reducible apply C9.set5 | with_reducible apply C9.set6 | with_reducible apply C9.set7 | with_reducible apply C9.set8 | with_reducible apply C9.drew)) hb; clear za; have za := zN; clear zN; have zz := za; obtain ⟨x0, x1, x2, x3, x4, x5, x6, x7, x8, xf, xl⟩ := zz; have zN := C3.carry_of zd (by repeat (first | with_reducible assumption | with_reducible apply C3.up | (with_reducible apply C3.far; (first | omega | (simp; omega))) | with_reducible apply C3.drew)) hb; clear zd; have zd := zN; clear zN; have zz := zd; obtain ⟨u0, u1, u2, u3, u4, u5, u6⟩ := zz))
    all_goals go_ret
    all_goals exact ⟨rfl, hB⟩
  · have hok := rOk_some hX
    have hXe : (frX (rOk f al si alt ze wi gr pr t n c e) f al si alt ze wi gr pr t n c e).isEmpty = false := by
      rw [List.isEmpty_eq_false_iff]
      exact hX
    clear hX
    obtain ⟨V, hst, hd⟩ := rOk_open hok
    obtain ⟨A, B, T, ha, L⟩ := amT_L alt (t := t.data.toList) hd V.pr0 V.pr9 (tyR_of hst)
    have h1 := rOk_other (f' := f) (al' := al) (si' := si) (gr' := 1) ze hok ⟨V.al0, V.al4⟩ ⟨V.si0, V.si3⟩ ⟨by omega, by omega⟩ V.fill (fun x => x)
    have h0 := rOk_other (f' := f) (al' := al) (si' := si) (gr' := 0) ze hok ⟨V.al0, V.al4⟩ ⟨V.si0, V.si3⟩ ⟨by omega, by omega⟩ V.fill (fun x => x)
    have k3 := fun W (h : PT W) => FormatReal_any f al si alt ze 0 1 pr t n c e W h
    have k4 := fun W (h : PT W) => FormatReal_any f al si alt ze 0 0 pr t n c e W h
    rw [frX_zero h1 ha] at k3
    rw [frX_zero h0 ha] at k4
    have hfr := am_free alt pr t.data.toList n c e
    rw [ha] at hfr
    have hwo := frZ_marks (si := si) (alt := alt) (n := n) L.da L.db hfr
    have hln := frZ_len (si := si) (alt := alt) (gr := 1) (n := n) L
    have k5 := fun W => drop_any ⟨(frZ si alt 1 n A B T).toArray⟩ 44 W (by show (frZ si alt 1 n A B T).length ≤ 1000; omega)
    rw [show (⟨(frZ si alt 1 n A B T).toArray⟩ : ByteArray).data.toList = frZ si alt 1 n A B T from rfl, hwo, show (((44 : UInt8).toNat : Nat) : Int) = 44 from rfl] at k5
    generalize frZ si alt 1 n A B T = Y1 at *
    generalize frZ si alt 0 n A B T = Y0 at *
    generalize frX (rOk f al si alt ze wi gr pr t n c e) f al si alt ze wi gr pr t n c e = X at *
    clear hwo hfr h0 h1 ha L hok V hst hd hln
    have K1 := Lib.hid k1; have K2 := Lib.hid k2; have K3 := Lib.hid k3; have K4 := Lib.hid k4; have K5 := Lib.hid k5
    clear k1 k2 k3 k4 k5
    go_wp2_with (first | (go_at_call 18; (with_reducible refine Calls.mono (K1.out _ (hT.on (by repeat (first | with_reducible exact Below.refl _ _ | with_reducible assumption | with_reducible refine Below.setCell ?_ (by first | omega | (simp; done) | (simp <;> omega)) _ | with_reducible refine below_drewN ?_ _ | with_reducible refine Below.drew ?_ | with_reducible refine Below.alloc ?_ (by first | omega | (simp; done) | (simp <;> omega)) _)))) ?_); rintro r w2 ⟨rfl, hb⟩; have hBN : Below w.heap.size w w2 := (by refine Below.trans ?_ (hb.mono (by first | omega | (simp; done) | (simp <;> omega))); repeat (first | with_reducible exact Below.refl _ _ | with_reducible assumption | with_reducible refine Below.setCell ?_ (by first | omega | (simp; done) | (simp <;> omega)) _ | with_reducible refine below_drewN ?_ _ | with_reducible refine Below.drew ?_ | with_reducible refine Below.alloc ?_ (by first | omega | (simp; done) | (simp <;> omega)) _)); clear hB; have hB := hBN; clear hBN; have hz := hB.size; have zN := C9.carry_of za (by repeat (first | with_reducible assumption | with_reducible apply C9.up | (with_reducible apply C9.far; (case hn => (first | omega | (simp; omega)))) | with_reducible apply C9.set0 | with_reducible apply C9.set1 | with_reducible apply C9.set2 | with_reducible apply C9.set3 | with_reducible apply C9.set4 | with_reducible apply C9.set5 | with_reducible apply C9.set6 | with_reducible apply C9.set7 | with_reducible apply C9.set8 | with_reducible apply C9.drew)) hb; clear za; have za := zN; clear zN; have zz := za; obtain ⟨x0, x1, x2, x3, x4, x5, x6, x7, x8, xf, xl⟩ := zz; have zN := C3.carry_of zd (by repeat (first | with_reducible assumption | with_reducible apply C3.up | (with_reducible apply C3.far; (first | omega | (simp; omega))) | with_reducible apply C3.drew)) hb; clear zd; have zd := zN; clear zN; have zz := zd; obtain ⟨u0, u1, u2, u3, u4, u5, u6⟩ := zz) | (go_at_call 19; (with_reducible refine Calls.mono (K2.out _) ?_); rintro r w2 ⟨rfl, hb⟩; have hBN : Below w.heap.size w w2 := (by refine Below.trans ?_ (hb.mono (by first | omega | (simp; done) | (simp <;> omega))); repeat (first | with_reducible exact Below.refl _ _ | with_reducible assumption | with_reducible refine Below.setCell ?_ (by first | omega | (simp; done) | (simp <;> omega)) _ | with_reducible refine below_drewN ?_ _ | with_reducible refine Below.drew ?_ | with_reducible refine Below.alloc ?_ (by first | omega | (simp; done) | (simp <;> omega)) _)); clear hB; have hB := hBN; clear hBN; have hz := hB.size; have zN := C9.carry_of za (by repeat (first | with_reducible assumption | with_reducible apply C9.up | (with_reducible apply C9.far; (case hn => (first | omega | (simp; omega)))) | with_reducible apply C9.set0 | with_reducible apply C9.set1 | with_reducible apply C9.set2 | with_reducible apply C9.set3 | with_reducible apply C9.set4 | with_reducible apply C9.set5 | with_reducible apply C9.set6 | with_reducible apply C9.set7 | with_reducible apply C9.set8 | with_reducible apply C9.drew)) hb; clear za; have za := zN; clear zN; have zz := za; obtain ⟨x0, x1, x2, x3, x4, x5, x6, x7, x8, xf, xl⟩ := zz; have zN := C3.carry_of zd (by repeat (first | with_reducible assumption | with_reducible apply C3.up | (with_reducible apply C3.far; (first | omega | (simp; omega))) | with_reducible apply C3.drew)) hb; clear zd; have zd := zN; clear zN; have zz := zd; obtain ⟨u0, u1, u2, u3, u4, u5, u6⟩ := zz))
    have zA := (C9.new w2 (.string f) (.int .i64 al) (.int .i64 si) (.bool alt) (.bool ze) (.int .i64 0) (.int .i64 1) (.int .i64 pr) (.string t) 24).up (.cells #[.string f, .int .i64 al, .int .i64 si, .bool alt, .bool ze, .int .i64 0, .int .i64 0, .int .i64 pr, .string t] 24)
    have zB : C9 ((w2.alloc (.cells #[.string f, .int .i64 al, .int .i64 si, .bool alt, .bool ze, .int .i64 0, .int .i64 1, .int .i64 pr, .string t] 24)).alloc (.cells #[.string f, .int .i64 al, .int .i64 si, .bool alt, .bool ze, .int .i64 0, .int .i64 0, .int .i64 pr, .string t] 24)) (w2.heap.size + 1) (.string f) (.int .i64 al) (.int .i64 si) (.bool alt) (.bool ze) (.int .i64 0) (.int .i64 0) (.int .i64 pr) (.string t) := by
      have h := C9.new (w2.alloc (.cells #[.string f, .int .i64 al, .int .i64 si, .bool alt, .bool ze, .int .i64 0, .int .i64 1, .int .i64 pr, .string t] 24)) (.string f) (.int .i64 al) (.int .i64 si) (.bool alt) (.bool ze) (.int .i64 0) (.int .i64 0) (.int .i64 pr) (.string t) 24
      rw [show (w2.alloc (.cells #[.string f, .int .i64 al, .int .i64 si, .bool alt, .bool ze, .int .i64 0, .int .i64 1, .int .i64 pr, .string t] 24)).heap.size = w2.heap.size + 1 by simp] at h
      exact h
    replace zd := (zd.up (.cells #[.string f, .int .i64 al, .int .i64 si, .bool alt, .bool ze, .int .i64 0, .int .i64 1, .int .i64 pr, .string t] 24)).up (.cells #[.string f, .int .i64 al, .int .i64 si, .bool alt, .bool ze, .int .i64 0, .int .i64 0, .int .i64 pr, .string t] 24)
    have hz := hB.size
    replace hB : Below w.heap.size w ((w2.alloc (.cells #[.string f, .int .i64 al, .int .i64 si, .bool alt, .bool ze, .int .i64 0, .int .i64 1, .int .i64 pr, .string t] 24)).alloc (.cells #[.string f, .int .i64 al, .int .i64 si, .bool alt, .bool ze, .int .i64 0, .int .i64 0, .int .i64 pr, .string t] 24)) := (hB.alloc (by omega) _).alloc (by simp; omega) _
    have zz := zA
    obtain ⟨zA_x0, zA_x1, zA_x2, zA_x3, zA_x4, zA_x5, zA_x6, zA_x7, zA_x8, zA_xf, zA_xl⟩ := zz
    have zz := zB
    obtain ⟨zB_x0, zB_x1, zB_x2, zB_x3, zB_x4, zB_x5, zB_x6, zB_x7, zB_x8, zB_xf, zB_xl⟩ := zz
    have zz := zd
    obtain ⟨zd_0, zd_1, zd_2, zd_3, zd_4, zd_5, zd_6⟩ := zz
    obtain ⟨szA0, szA1, szA2, szA3, szA4, szA5, szA6, szA7, szA8⟩ := C9.since zA
    obtain ⟨szB0, szB1, szB2, szB3, szB4, szB5, szB6, szB7, szB8⟩ := C9.since zB
    obtain ⟨szd0, szd1, szd2⟩ := C3.since zd
    refine wp_region_since (by kernel_rfl) (by kernel_rfl) ?_
    repeat (quiet_step (first | (go_at_call 18; with_reducible exact Calls.since_of (K3.out _ (hT.on (hB.trans (Below.mono (Since.h _) hB.size))))) | (go_at_call 18; with_reducible exact Calls.since_of (K4.out _ (hT.on (hB.trans (Below.mono (Since.h _) hB.size))))) | (go_at_call 25; with_reducible exact Calls.since_of (mBn (K5.out _)))))
    refine wpQuiet_nil ?_
    intro w_ hw_
    obtain ⟨⟨w1, hb⟩, hw2⟩ := hw_
    have hw3 : w1 = w_ := hw2.symm
    clear hw2
    subst hw3
    clear szA0 szA1 szA2 szA3 szA4 szA5 szA6 szA7 szA8 szB0 szB1 szB2 szB3 szB4 szB5 szB6 szB7 szB8 szd0 szd1 szd2
    replace hB := hB.trans (hb.mono hB.size)
    have hz := hb.size
    replace zA := C9.carry zA hb
    have zz := zA; obtain ⟨zA_x0, zA_x1, zA_x2, zA_x3, zA_x4, zA_x5, zA_x6, zA_x7, zA_x8, zA_xf, zA_xl⟩ := zz
    replace zB := C9.carry zB hb
    have zz := zB; obtain ⟨zB_x0, zB_x1, zB_x2, zB_x3, zB_x4, zB_x5, zB_x6, zB_x7, zB_x8, zB_xf, zB_xl⟩ := zz
    replace zd := C3.carry zd hb
    have zz := zd; obtain ⟨zd_0, zd_1, zd_2, zd_3, zd_4, zd_5, zd_6⟩ := zz
    go_wp2
    all_goals go_ret
    all_goals exact ⟨rfl, hB⟩

def FnFormatRealGroup_LL : List (String × DataW Unit) := [("math/bits.deBruijn32tab", Rows.laid_math_bits_deBruijn32tab), ("math/bits.deBruijn64tab", Rows.laid_math_bits_deBruijn64tab), ("internal/strconv.uint64pow10", Rows.laid_internal_strconv_uint64pow10), ("unicode/utf8.acceptRanges", Rows.laid_unicode_utf8_acceptRanges), ("unicode.CaseRanges", Rows.laid_unicode_CaseRanges), ("unicode/utf8.first", Rows.laid_unicode_utf8_first)]

set_option maxRecDepth 100000 in
theorem FnFormatRealGroup_lifted (os : Os) (started : os.Started) (H : Type) (enc : TypeId × Value → H) :
    ReturnsInHanded {} Tryz.checked os 7 .any (fun w args => (Rows.fnFormatRealGroupSpec.pre enc Tryz.prog Tryz.f7 [] false w args ∧ laidMetH Tryz.prog FnFormatRealGroup_LL w) ∧ sizedMet enc Tryz.prog Tryz.f7 (OpenSpec.ofChange Rows.fnFormatRealGroupSpec) false w args) (Rows.fnFormatRealGroupSpec.post enc Tryz.prog Tryz.f7 false true false false) := by
  refine returnsInHanded_of_change_and (C := Tryz.checked) (X := fun w _ => laidMetH Tryz.prog FnFormatRealGroup_LL w) (fun _ _ _ hh h => h.of_heap hh) Tryz.own started (by kernel_rfl) Tryz.func7
    (ChangeSpec.witness_shaped (enc := enc) (C := Tryz.checked) (os := os) (X := fun w _ => laidMetH Tryz.prog FnFormatRealGroup_LL w) false (World.laidAll Tryz.prog os FnFormatRealGroup_LL) #[.slice none 0 0] 8 (World.laidAll_os _ _ _) (World.shaped_of_ZipB (by kernel_rfl) (by kernel_rfl)) (by kernel_rfl) (by kernel_rfl) (by kernel_rfl)
      (by rw [MakeChecks.laidMetH_plain _ _ _ (by kernel_rfl)]; exact laidMet_laidAll _ (by kernel_rfl) (by kernel_rfl))) ?_
  intro W base args ds gs before hval0 hW _ _ hL _
  rw [MakeChecks.laidMetH_plain _ _ _ (by kernel_rfl)] at hL
  have hT := p10_is hL
  have hval : ∀ (j : Nat) t v, Tryz.f7.params[j]? = some t → args[j]? = some v → Value.okWide Tryz.prog W .any base t v := hval0
  have hW' := hW
  obtain ⟨p, q, hA0, hV, rfl, hfz, hnd⟩ := hW
  have hA : DataW.TrodAll enc Tryz.prog W 0 (fun _ => true) true Tryz.f7.params.toList args.toList ds p := hA0
  rw [Tryz.params7] at hA hval
  obtain ⟨v0, d0, rfl, rfl, h0⟩ := trodAll_one hA
  obtain ⟨rfl, rfl⟩ := trodVars_none hV
  obtain ⟨s, len, cap, rfl, hcap, hcode⟩ := open_code (hval 0 22 v0 rfl rfl) h0
  clear hA0 hval0
  have hlt := fun x hx => hW'.lt x hx
  refine (FnFormatRealGroup_law s len cap W hT hcode hcap).mono fun e_ W' ⟨he, hb⟩ => ?_
  subst he
  exact ⟨_, rfl, post_of_below (pa := p) (pv := []) hW' (fun _ _ _ => trodAll_mk1 (shut_bool Tryz.underlying4 true)) (fun sp hsp => trodAll_mk1 (code_back h0 hb (fun x hx => hlt x (by simp [hx])) (fun x hx => hsp x (by simp [hx])))) (fun _ _ => rfl) (by simp) hb (ok_one (by kernel_rfl) rfl (okWide_bool_mk Tryz.underlying4 true))⟩


theorem and_t {a b : Bool} (h : a = true) (k : b = true) : (a && b) = true := by rw [h, k]; rfl
theorem FnFormatRealGroup_q1 : (Rows.fnFormatRealGroupRow.wf (OpenSpec.ofChange Rows.fnFormatRealGroupSpec)) = true := by kernel_rfl
theorem FnFormatRealGroup_q2 : (laidOutB Tryz.prog) = true := by kernel_rfl
theorem FnFormatRealGroup_q3 : (mapsRowed Tryz.prog) = true := by kernel_rfl
theorem FnFormatRealGroup_q4 : (Tryz.f7.params.all (Tryz.prog.readableRec ·)) = true := by kernel_rfl
theorem FnFormatRealGroup_q5 : (namedTie Tryz.prog Rows.fnFormatRealGroupRow.named Rows.fnFormatRealGroupSpec.vars) = true := by kernel_rfl
theorem FnFormatRealGroup_q6 : ((Rows.fnFormatRealGroupRow.stops == [])) = true := by kernel_rfl
theorem FnFormatRealGroup_q7 : ((Tryz.prog.stops == [])) = true := by kernel_rfl
theorem FnFormatRealGroup_q8 : ((Rows.fnFormatRealGroupRow.knobs == [])) = true := by kernel_rfl
theorem FnFormatRealGroup_q9 : ((Tryz.prog.stopKnobs == [])) = true := by kernel_rfl
theorem FnFormatRealGroup_q10 : ((Rows.fnFormatRealGroupRow.inPlace == Tryz.prog.inPlace 7)) = true := by kernel_rfl
theorem FnFormatRealGroup_q11 : ((Rows.fnFormatRealGroupRow.unfollowed == Tryz.prog.unfollowed 7)) = true := by kernel_rfl
theorem FnFormatRealGroup_q12 : ((Rows.fnFormatRealGroupRow.recurses == Tryz.prog.recurses 7)) = true := by kernel_rfl
theorem FnFormatRealGroup_q13 : ((Rows.fnFormatRealGroupRow.named == Tryz.prog.varsNamed 7)) = true := by kernel_rfl
theorem FnFormatRealGroup_q14 : ((Rows.fnFormatRealGroupRow.maps == (Tryz.f7.params.toList ++ Rows.fnFormatRealGroupSpec.plain.varTypes Tryz.prog).any (Tryz.prog.mapsRec ·))) = true := by kernel_rfl
theorem FnFormatRealGroup_q15 : ((Rows.fnFormatRealGroupRow.ifaces == (Tryz.f7.params.toList ++ Rows.fnFormatRealGroupSpec.plain.varTypes Tryz.prog).any (Tryz.prog.ifacesRec ·))) = true := by kernel_rfl
theorem FnFormatRealGroup_q16 : ((Rows.fnFormatRealGroupRow.mapsOut == Tryz.prog.mapsAmong Tryz.f7.resultTypes.toList)) = true := by kernel_rfl
theorem FnFormatRealGroup_q17 : ((Rows.fnFormatRealGroupRow.loops == (Tryz.f7.params.toList ++ Rows.fnFormatRealGroupSpec.plain.varTypes Tryz.prog).any (Tryz.prog.loopsFrom ·))) = true := by kernel_rfl
theorem FnFormatRealGroup_q18 : ((Rows.fnFormatRealGroupRow.wideKeys == (Tryz.f7.params.toList ++ Rows.fnFormatRealGroupSpec.plain.varTypes Tryz.prog ++ Tryz.f7.resultTypes.toList).any (Tryz.prog.wideKeysFrom ·))) = true := by kernel_rfl
theorem FnFormatRealGroup_q19 : (Rows.fnFormatRealGroupSpec.vars.all (Tryz.prog.varReadable ·)) = true := by kernel_rfl
theorem FnFormatRealGroup_q20 : (Tryz.f7.resultTypes.all (fun t => Tryz.prog.readableRec t && decide (t < Tryz.prog.types.size))) = true := by kernel_rfl
theorem FnFormatRealGroup_q21 : ((Rows.fnFormatRealGroupRow.ifacesOut == Tryz.f7.resultTypes.toList.any (Tryz.prog.ifacesRec ·))) = true := by kernel_rfl
theorem FnFormatRealGroup_q22 : ((Rows.fnFormatRealGroupRow.loopsOut == Tryz.f7.resultTypes.toList.any (Tryz.prog.loopsFrom ·))) = true := by kernel_rfl
theorem FnFormatRealGroup_q23 : ((Rows.fnFormatRealGroupRow.plainKeys == Tryz.prog.plainKeys)) = true := by kernel_rfl
theorem FnFormatRealGroup_q24 : (Rows.fnFormatRealGroupRow.shortTexts.isNone) = true := by kernel_rfl
theorem FnFormatRealGroup_q25 : (Tryz.prog.stopsHeard) = true := by kernel_rfl
theorem FnFormatRealGroup_q26 : (Tryz.prog.mayEnter) = true := by kernel_rfl
theorem FnFormatRealGroup_q27 : ((Rows.fnFormatRealGroupRow.lifted == Tryz.prog.liftsFinal)) = true := by kernel_rfl
theorem FnFormatRealGroup_q28 : ((Tryz.prog.make == some Rows.fnFormatRealGroupRow.make)) = true := by kernel_rfl
theorem FnFormatRealGroup_q29 : ((Rows.fnFormatRealGroupRow.kinds == (if Rows.fnFormatRealGroupRow.domain.isEmpty then [] else Tryz.f7.params.toList.map fun t => match Tryz.prog.underlying t with | some (.int k) => some k | _ => none))) = true := by kernel_rfl
theorem FnFormatRealGroup_q30 : ((Rows.fnFormatRealGroupRow.pinned == Rows.fnFormatRealGroupRow.pinnedBy)) = true := by kernel_rfl
theorem FnFormatRealGroup_q31 : ((Rows.fnFormatRealGroupRow.veiled == (Tryz.f7.params.toList ++ Rows.fnFormatRealGroupSpec.plain.varTypes Tryz.prog ++ Tryz.f7.resultTypes.toList).any (Tryz.prog.veiledRec ·))) = true := by kernel_rfl
theorem FnFormatRealGroup_q32 : (Rows.fnFormatRealGroupRow.veiledFits Tryz.prog Tryz.f7.params.toList (Tryz.f7.params.toList ++ Rows.fnFormatRealGroupSpec.plain.varTypes Tryz.prog ++ Tryz.f7.resultTypes.toList)) = true := by kernel_rfl
set_option maxRecDepth 100000 in
theorem FnFormatRealGroup_jf : joinedFacts Tryz.prog 7 Tryz.f7 Rows.fnFormatRealGroupSpec Rows.fnFormatRealGroupRow = true := by
  unfold joinedFacts
  exact and_t (and_t (and_t (and_t (and_t (and_t (and_t (and_t (and_t (and_t (and_t (and_t (and_t (and_t (and_t (and_t (and_t (and_t (and_t (and_t (and_t (and_t (and_t (and_t (and_t (and_t (and_t (and_t (and_t (and_t (and_t (FnFormatRealGroup_q1) FnFormatRealGroup_q2) FnFormatRealGroup_q3) FnFormatRealGroup_q4) FnFormatRealGroup_q5) FnFormatRealGroup_q6) FnFormatRealGroup_q7) FnFormatRealGroup_q8) FnFormatRealGroup_q9) FnFormatRealGroup_q10) FnFormatRealGroup_q11) FnFormatRealGroup_q12) FnFormatRealGroup_q13) FnFormatRealGroup_q14) FnFormatRealGroup_q15) FnFormatRealGroup_q16) FnFormatRealGroup_q17) FnFormatRealGroup_q18) FnFormatRealGroup_q19) FnFormatRealGroup_q20) FnFormatRealGroup_q21) FnFormatRealGroup_q22) FnFormatRealGroup_q23) FnFormatRealGroup_q24) FnFormatRealGroup_q25) FnFormatRealGroup_q26) FnFormatRealGroup_q27) FnFormatRealGroup_q28) FnFormatRealGroup_q29) FnFormatRealGroup_q30) FnFormatRealGroup_q31) FnFormatRealGroup_q32
theorem FnFormatRealGroup_fn : Tryz.prog.funcNamed Rows.fnFormatRealGroupRow.func = some 7 := by kernel_rfl
theorem FnFormatRealGroup_fn2 : Tryz.prog.funcNamed "loop.example/formatplans/laws.FnFormatRealGroup" = some 7 := by kernel_rfl
theorem FnFormatRealGroup_lo : false = Tryz.prog.looks [] := by kernel_rfl
theorem FnFormatRealGroup_wf : Rows.fnFormatRealGroupRow.wfByText (OpenSpec.ofChange Rows.fnFormatRealGroupSpec) = true := by kernel_rfl
theorem FnFormatRealGroup_go : false = Rows.fnFormatRealGroupRow.goesBy Tryz.prog := by kernel_rfl
theorem FnFormatRealGroup_wr : Tryz.f7.isWrapper Tryz.prog Rows.fnFormatRealGroupRow.wrapper Rows.fnFormatRealGroupRow.mainSum := by unfold Func.isWrapper; first | (rw [if_pos (by decide +kernel)]; kernel_rfl) | (rw [if_neg (by decide +kernel)]; exact ⟨rfl, rfl⟩)
theorem FnFormatRealGroup_mi : Tryz.prog.mainIs = some (true, "6933efefb6e096d9a2a014b580faf256fe9a780daa6d240b09c62b53f6401334".toList) := by kernel_rfl
theorem FnFormatRealGroup_st : ([22].all fun u => !Tryz.prog.wantsStandIn u) = true := by kernel_rfl
theorem FnFormatRealGroup_holds : Rows.FnFormatRealGroupSaid :=
  OpenClaim.holds_of_wide 7 Tryz.f7 rfl rfl rfl rfl rfl rfl rfl ⟨rfl, rfl, rfl, rfl, rfl⟩ rfl rfl rfl rfl rfl FnFormatRealGroup_fn Tryz.func7 FnFormatRealGroup_jf
    (of_decide_eq_true (by kernel_rfl)) FnFormatRealGroup_wr
    (fun os started H enc _ => FnFormatRealGroup_lifted os started H enc)

theorem FnFormatRealGroup_card : Rows.FnFormatRealGroupCardSaid :=
  Claim7.holds_tied_plain_at .later [] [.data, .data, .data, .data, .pinned, .pinned] true (true, "6933efefb6e096d9a2a014b580faf256fe9a780daa6d240b09c62b53f6401334") false
    FnFormatRealGroup_holds (fun _ h => by cases h) FnFormatRealGroup_wf (fun _ h => by cases h) fnFormatRealGroup_row_tie rfl ⟨rfl, rfl⟩ FnFormatRealGroup_mi rfl
    (fun f fn hf hfn => by
      obtain rfl : f = 7 := Option.some.inj (FnFormatRealGroup_fn2.symm.trans hf) |>.symm
      obtain rfl : fn = Tryz.f7 := (Option.some.inj (Tryz.func7.symm.trans hfn)).symm
      exact ⟨FnFormatRealGroup_lo, fun j t ht => by
        rw [Tryz.params7] at ht
        have hm : t ∈ [22] := by simpa using Array.mem_of_getElem? ht
        have hall := FnFormatRealGroup_st
        exact (show Tryz.prog.wantsStandIn t = false by simpa using List.all_eq_true.1 hall t hm)⟩)
    FnFormatRealGroup_go
end Go.Proofs.YtejganoipbblcaaGreatDoor
