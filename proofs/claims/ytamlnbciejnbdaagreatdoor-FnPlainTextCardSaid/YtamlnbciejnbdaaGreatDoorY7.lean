import Derived.Test.YtamlnbciejnbdaaGreatDoorY6
namespace Go.Proofs.YtamlnbciejnbdaaGreatDoor
open Go.RowKit
set_option maxRecDepth 100000 in
set_option maxHeartbeats 4000000 in
theorem GroupDigits_some (s : ByteArray) (n : Nat) (sep : ByteArray) (w : World) (hs : s.size ≤ 80) (hs0 : 1 ≤ s.size) (hn0 : 1 ≤ n) (hn1 : n ≤ 9) (hsep : sep.size = 1) :
    Calls Tryz.prog 123 #[.string s, .int .i64 n, .string sep] w fun r w' => r = .returned (.string ⟨(grp n sep.data.toList s.data.toList).toArray⟩) ∧ Below w.heap.size w w' := by
  have k1 := fun W => within_any n 1 9 W
  rw [show inr n 1 9 = true by simp [inr]; omega] at k1
  have K1 := Lib.hid k1
  clear k1
  obtain ⟨cap, W1, hconv, hcap, hz1, hB1, hcell⟩ := bytes_world w s
  have HC := Lib.hid hcell
  clear hcell
  have hm0 : ((s.size : Int) - 1).tmod n = (((s.size - 1) % n : Nat) : Int) := by
    rw [show ((s.size : Int) - 1) = ((s.size - 1 : Nat) : Int) by omega]
    rw [Int.tmod_eq_emod_of_nonneg (by omega)]
    rfl
  have hm1 := Nat.mod_lt (s.size - 1) (show 0 < n by omega)
  generalize hR : (s.size - 1) % n = R at *
  obtain ⟨i0, hi, hz0, hzz1, hzz2⟩ := info_parts Tryz.infoRow
  have hll : s.data.toList.length = s.size := by rw [Array.length_toList]; rfl
  have hR2 : (s.data.toList.length - 1) % n + 1 = R + 1 := by rw [hll, hR]
  have HR := Lib.hid hR
  clear hR
  go_enter Tryz.func123, Tryz.ntmps123
  go_wp2_with (go_at_call 42; (with_reducible refine Calls.mono (K1.out _) ?_); rintro r w1 ⟨rfl, rfl⟩)
  go_loopg [8, 9, 10] s.size (fun g s8 s9 s10 wr => ∃ (p e : Nat) (ls : List (List UInt8)), s9 = .int .i64 p ∧ s10 = .int .i64 e ∧ p ≤ s.size ∧ ls.length ≤ p ∧ wr.ownsRow (w.heap.size + 1) 22 1 s8 ls.length (vsOf w.heap.size 0 ls) ∧ Below (w.heap.size + 1) W1 wr ∧ Aside (GSt s.data.toList n sep.data.toList p e ls) ∧ Aside (g = s.size - p))
  case atStart => exact ⟨0, R + 1, [], rfl, by go_num, by omega, by simp, World.ownsRow_nil _ _ _ _, Below.refl _ _, by rw [← hR2]; exact GSt.init _ _ _, by show _ = _; omega⟩
  case round =>
    obtain ⟨p, e, ls, rfl, rfl, hp, hlp, hown, hbl, hG, hg⟩ := hrel
    have hG' := hG.out
    have hg' := hg.out
    clear hG hg
    have hwz := hbl.size
    by_cases hlt : p < s.size
    · obtain ⟨q1, q2, q3⟩ := hG'.next hn0 (by omega)
      rw [hll] at q2
      have hfl : ls.flatten.length = p := by rw [hG'.flat, List.length_take]; omega
      have Q3 := Lib.hid q3
      clear q3 hG'
      have i1 : (p : Int) < s.size := by omega
      have i2 : (p : Int) < e := by omega
      have i3 : (p : Int) ≤ e := by omega
      have i4 : (e : Int) ≤ cap := by omega
      go_wp2_with (at_builtin; refine wpList_append_own _ rfl (.tmp 39) (.tmp 45) 148 rfl (w.heap.size + 1) 22 i0 (.slice none 0 0) 1 24 Tryz.underlying148 hi hz0 hzz1 hzz2 rfl (by decide) _ _ _ rfl (hown.alloc _) ⟨wr.heap.size, 0, none⟩ 1 1 [.slice (some ⟨w.heap.size, p, none⟩) (e - p) (e - p)] rfl rfl (by intro j u hj; match j, hj with | 0, hj => simp at hj; subst hj; simp [Addr.add, go_sem]) (by intro u hu; simp at hu; subst hu; rfl) (by simp only [maxLen]; omega) (by omega) (by simp; omega) ?_; intro v' w1 hown' hgrow _)
      have hn2 : w1.ownsRow (w.heap.size + 1) 22 1 v' (ls ++ [(s.data.toList.drop p).take (e - p)]).length (vsOf w.heap.size 0 (ls ++ [(s.data.toList.drop p).take (e - p)])) := by
        rw [vsOf_snoc, List.length_append, hfl, Nat.zero_add, show ((s.data.toList.drop p).take (e - p)).length = e - p by rw [List.length_take, List.length_drop]; omega]
        exact hown'
      have hb2 : Below (w.heap.size + 1) W1 w1 := (hbl.alloc (by omega) _).grown hgrow (by simp; omega) (fun j hj => by have := (hown.lt j hj).1; omega)
      go_roundg (s.size - e)
      case measure => omega
      case rel => exact ⟨e, e + n, ls ++ [(s.data.toList.drop p).take (e - p)], rfl, by go_num, q2, by rw [List.length_append]; simp; omega, hn2, hb2, Q3.out, rfl⟩
    · have i1 : ¬ (p : Int) < s.size := by omega
      obtain ⟨f1, f2, f3⟩ := hG'.done (by omega) (by omega)
      have F2 := Lib.hid f2
      clear hG' f2
      obtain ⟨cap2, W2, hconv2, hcap2, hz2, hB2, hcell2⟩ := bytes_world wr sep
      rw [hsep] at hconv2
      have hcs := hown.2
      have hcells := hown
      rcases hcs with ⟨_, h0⟩ | ⟨gb, cp, cur, rfl, hgB, hgc, hgn, _⟩
      · exact absurd (List.length_eq_zero_iff.1 h0) f1
      have hgl : gb < wr.heap.size := (Array.getElem?_eq_some_iff.1 hgc).1
      have hJ := join_groups (w := W2) (D := w.heap.size) (gb := gb) (cp := cp) (ls := ls) (sv := .slice (some ⟨wr.heap.size, 0, none⟩) 1 cap2) (sep := sep.data.toList) f1 (fun _ => by rw [f3]; omega) hgn (by rw [f3]; omega) (by omega) (by rw [Array.length_toList]; exact hsep)
        (fun j u hu => by have := hcells.cells (g := gb) rfl j u hu; rw [add_none] at this ⊢; exact (hB2.cell (p := ⟨gb, 0 + j, none⟩) hgl).trans this)
        (fun j x hx => by rw [f3] at hx; exact (hB2.cell (p := ⟨w.heap.size, j, none⟩) (by simp only; omega)).trans ((hbl.cell (p := ⟨w.heap.size, j, none⟩) (by simp only; omega)).trans (HC.out j x hx)))
        ⟨some ⟨wr.heap.size, 0, none⟩, cap2, by rw [Array.length_toList, show sep.data.size = 1 from hsep], by simp, fun a ha i y hy => by simp only [Option.some.injEq] at ha; subst ha; rw [add_none, Nat.zero_add]; exact hcell2 i y hy⟩
      rw [F2.out] at hJ
      have HJ := Lib.hid hJ
      have hBw : Below w.heap.size w W2 := (hB1.trans (hbl.mono (by omega))).trans (hB2.mono (by omega))
      clear hJ hcell2 hcells hown hconv hgc
      go_wp2_with (go_at_call 167; (with_reducible refine Calls.mono HJ.out ?_); rintro r w3 ⟨v3, rfl, hfr, hb3⟩; (obtain ⟨g3, c3, rfl, hc3⟩ := fresh_cells hfr); have hback := run_convert_bytes_back (P := Tryz.prog) w3 22 9 5 ⟨g3, 0, none⟩ c3 _ Tryz.underlying22 Tryz.underlying5 Tryz.underlying9 hc3; clear hc3 hfr)
      go_ret
      exact ⟨rfl, hBw.trans (hb3.mono (by have := hBw.size; omega))⟩
end Go.Proofs.YtamlnbciejnbdaaGreatDoor
