import Derived.Test.YtebheehjhnaklaaGreatDoorShelf
import Derived.Test.YtebheehjhnaklaaGreatDoorY3
import Derived.Laws.IdiomStrings
import Derived.OwnWalk
namespace Go.Proofs.YtebheehjhnaklaaGreatDoor
open Go.RowKit
/-- how far the groups have come: p bytes are in ls, e is the end of the next one -/
structure GSt (l : List UInt8) (n : Nat) (sep : List UInt8) (p e : Nat) (ls : List (List UInt8)) : Prop where
  flat : ls.flatten = l.take p
  le : p ≤ l.length
  st : (p = 0 ∧ ls = [] ∧ e = (l.length - 1) % n + 1) ∨ (0 < p ∧ ls ≠ [] ∧ e = p + n ∧ (l.length - p) % n = 0 ∧ Lib.join ls sep ++ grpT n sep (l.drop p) = grp n sep l)
theorem join_snoc (sep g : List UInt8) {ls : List (List UInt8)} (h : ls ≠ []) : Lib.join (ls ++ [g]) sep = Lib.join ls sep ++ (sep ++ g) := by
  match ls, h with
  | x :: r, _ =>
    rw [List.cons_append, Lib.join_cons, Lib.join_cons]
    simp [Lib.joinTail, List.append_assoc]
theorem GSt.init (l : List UInt8) (n : Nat) (sep : List UInt8) : GSt l n sep 0 ((l.length - 1) % n + 1) [] := ⟨by simp, by omega, .inl ⟨rfl, rfl, rfl⟩⟩
theorem GSt.next {l : List UInt8} {n : Nat} {sep : List UInt8} {p e : Nat} {ls : List (List UInt8)} (h : GSt l n sep p e ls) (hn : 1 ≤ n) (hp : p < l.length) :
    p < e ∧ e ≤ l.length ∧ GSt l n sep e (e + n) (ls ++ [(l.drop p).take (e - p)]) := by
  obtain ⟨hf, hle, hs⟩ := h
  have flat : ∀ e', p < e' → e' ≤ l.length → (ls ++ [(l.drop p).take (e' - p)]).flatten = l.take e' := by
    intro e' h1 h2
    rw [List.flatten_append, hf]
    simp only [List.flatten_cons, List.flatten_nil, List.append_nil]
    rw [show e' = p + (e' - p) by omega, List.take_add, show p + (e' - p) - p = e' - p by omega]
  have ld : (l.drop p).length = l.length - p := by simp
  rcases hs with ⟨rfl, rfl, rfl⟩ | ⟨h0, hne, rfl, hm, hj⟩
  · have hr : (l.length - 1) % n + 1 ≤ l.length := by
      have := Nat.mod_le (l.length - 1) n
      omega
    refine ⟨by omega, hr, flat _ (by omega) hr, hr, .inr ⟨by omega, by simp, rfl, ?_, ?_⟩⟩
    · have hd := Nat.div_add_mod (l.length - 1) n
      have : l.length - ((l.length - 1) % n + 1) = n * ((l.length - 1) / n) := by omega
      rw [this, Nat.mul_mod_right]
    · have hl : l.take ((l.length - 1) % n + 1) ++ l.drop ((l.length - 1) % n + 1) = l := List.take_append_drop _ _
      have hd := Nat.div_add_mod (l.length - 1) n
      have e1 : (l.take ((l.length - 1) % n + 1)).length = (l.length - 1) % n + 1 := by rw [List.length_take]; omega
      have e2 : (l.drop ((l.length - 1) % n + 1)).length = n * ((l.length - 1) / n) := by rw [List.length_drop]; omega
      have g := grp_head n sep (g := l.take ((l.length - 1) % n + 1)) (c := l.drop ((l.length - 1) % n + 1)) hn (by rw [e1, e2]; congr 2; omega) (by rw [e2, Nat.mul_mod_right])
      rw [hl] at g
      rw [g, List.nil_append, Lib.join_one]
      simp
  · have hk : p + n ≤ l.length := by
      have hd := Nat.div_add_mod (l.length - p) n
      rw [hm] at hd
      have : 1 ≤ (l.length - p) / n := by
        rcases Nat.eq_zero_or_pos ((l.length - p) / n) with h | h
        · rw [h] at hd; omega
        · exact h
      have := Nat.mul_le_mul (Nat.le_refl n) this
      omega
    refine ⟨by omega, hk, flat _ (by omega) hk, hk, .inr ⟨by omega, by simp, rfl, ?_, ?_⟩⟩
    · have : l.length - p = (l.length - (p + n)) + n := by omega
      rw [this, Nat.add_mod_right] at hm
      exact hm
    · rw [join_snoc _ _ hne, show p + n - p = n by omega]
      have hl : (l.drop p).take n ++ l.drop (p + n) = l.drop p := by rw [← List.drop_drop]; exact List.take_append_drop _ _
      have e1 : ((l.drop p).take n).length = n := by rw [List.length_take, ld]; omega
      have e2 : (l.drop (p + n)).length % n = 0 := by
        rw [List.length_drop]
        have : l.length - p = (l.length - (p + n)) + n := by omega
        rw [this, Nat.add_mod_right] at hm
        exact hm
      have g := grpT_full n sep hn e1 e2
      rw [hl] at g
      rw [← hj, g]
      simp [List.append_assoc]
theorem GSt.done {l : List UInt8} {n : Nat} {sep : List UInt8} {p e : Nat} {ls : List (List UInt8)} (h : GSt l n sep p e ls) (h1 : 1 ≤ l.length) (hp : l.length ≤ p) : ls ≠ [] ∧ Lib.join ls sep = grp n sep l ∧ ls.flatten = l := by
  have hle := h.le
  rcases h.st with ⟨rfl, _, _⟩ | ⟨_, h2, _, _, hj⟩
  · omega
  · refine ⟨h2, ?_, ?_⟩
    · rw [List.drop_eq_nil_of_le hp] at hj
      simpa [grpT] using hj
    · rw [h.flat]; exact List.take_of_length_le hp
/-- the groups as slices of the block D -/
def vsOf (D : Nat) : Nat → List (List UInt8) → List Value
  | _, [] => []
  | off, g :: gs => .slice (some ⟨D, off, none⟩) g.length g.length :: vsOf D (off + g.length) gs
theorem vsOf_length (D : Nat) : ∀ (off : Nat) (ls : List (List UInt8)), (vsOf D off ls).length = ls.length
  | _, [] => rfl
  | off, g :: gs => by simp [vsOf, vsOf_length D _ gs]
theorem vsOf_snoc (D : Nat) (g : List UInt8) : ∀ (off : Nat) (ls : List (List UInt8)), vsOf D off (ls ++ [g]) = vsOf D off ls ++ [.slice (some ⟨D, off + ls.flatten.length, none⟩) g.length g.length]
  | off, [] => by simp [vsOf]
  | off, x :: gs => by
    simp only [List.cons_append, vsOf, vsOf_snoc D g _ gs, List.flatten_cons, List.length_append]
    rw [Nat.add_assoc]
theorem add_none (D off i : Nat) : (⟨D, off, none⟩ : Addr).add i = ⟨D, off + i, none⟩ := by unfold Addr.add; split <;> simp_all
theorem vsOf_holds {w : World} {D : Nat} : ∀ (off : Nat) (ls : List (List UInt8)), (∀ (j : Nat) x, ls.flatten[j]? = some x → w.cell? ⟨D, off + j, none⟩ = some (.int .u8 (x.toNat : Int))) →
    ∀ (i : Nat) v g, (vsOf D off ls)[i]? = some v → ls[i]? = some g → Lib.HoldsBytes w v g
  | _, [], _, i, v, g, h, _ => by simp [vsOf] at h
  | off, x :: gs, hc, i, v, g, hv, hg => by
    cases i with
    | zero =>
      simp only [vsOf, List.getElem?_cons_zero, Option.some.injEq] at hv hg
      subst hv hg
      refine ⟨some ⟨D, off, none⟩, _, rfl, by simp, ?_⟩
      intro a ha i y hy
      simp only [Option.some.injEq] at ha
      subst ha
      rw [add_none]
      refine hc i y ?_
      simp only [List.flatten_cons]
      rw [List.getElem?_append_left (List.getElem?_eq_some_iff.1 hy).1]
      exact hy
    | succ i =>
      simp only [vsOf, List.getElem?_cons_succ] at hv hg
      refine vsOf_holds (off + x.length) gs (fun j y hy => ?_) i v g hv hg
      rw [Nat.add_assoc]
      refine hc (x.length + j) y ?_
      simp only [List.flatten_cons]
      rw [List.getElem?_append_right (by omega), show x.length + j - x.length = j by omega]
      exact hy
theorem lens_flatten : ∀ (ls : List (List UInt8)), Lib.lens ls = ls.flatten.length
  | [] => rfl
  | g :: gs => by rw [Lib.lens_cons, lens_flatten gs]; simp
end Go.Proofs.YtebheehjhnaklaaGreatDoor
namespace Go.Proofs.YtebheehjhnaklaaGreatDoor
open Go.RowKit
theorem Tryz.infoRow : (Tryz.prog.info? 22).map (fun i => (i.zero, i.size, i.bytes)) = some (some (.slice none 0 0), 1, 24) := by kernel_rfl
/-- the world behind '[]byte(s)' -/
theorem bytes_world (w : World) (s : ByteArray) : ∃ (cap : Nat) (W1 : World), (convert 9 22 (.string s)).run Tryz.prog w = .ok (.slice (some ⟨w.heap.size, 0, none⟩) s.size cap) W1 ∧ s.size ≤ cap ∧ W1.heap.size = w.heap.size + 1 ∧ Below w.heap.size w W1 ∧
    ∀ (j : Nat) x, s.data.toList[j]? = some x → W1.cell? ⟨w.heap.size, j, none⟩ = some (.int .u8 (x.toNat : Int)) := by
  refine ⟨_, _, run_bytes_of_string w 9 22 5 s Tryz.underlying9 Tryz.underlying22 Tryz.underlying5, grownCap_ge _ _ _ _, by simp [World.alloc], ?_, ?_⟩
  · exact (Below.refl w.heap.size w).drew.alloc (Nat.le_refl _) _
  · intro j x hx
    refine (World.cell?_alloc_mark w.drew _ _ _ j).trans ?_
    have hj : j < s.data.size := by simpa using (List.getElem?_eq_some_iff.1 hx).1
    rw [bytesRow_at s _ j hj]
    have := (List.getElem?_eq_some_iff.1 hx).2
    rw [← this]
    rfl
theorem fresh_cells {B : Nat} {w : World} {v : Value} {l : List UInt8} (h : Lib.FreshBytes B w v l) : ∃ g cap, v = .slice (some ⟨g, 0, none⟩) l.length cap ∧ ∀ j (hj : j < l.length), w.cell? ((⟨g, 0, none⟩ : Addr).add j) = some (.int .u8 (l[j].toNat : Int)) := by
  obtain ⟨g, cap, zs, rfl, _, h1, _, h2, h3, h4, h5, _⟩ := h
  refine ⟨g, cap, rfl, fun j hj => ?_⟩
  rw [add_none, Nat.zero_add, h5 j (by omega)]
  have hz : j < zs.length := by omega
  have e : l[j]? = (Lib.bytesOf (zs.take l.length))[j]? := by rw [h4]
  rw [List.getElem?_eq_getElem hj] at e
  have hb := h3 zs[j] (List.getElem_mem hz)
  have e2 : (Lib.bytesOf (zs.take l.length))[j]? = some (UInt8.ofNat zs[j].toNat) := by
    unfold Lib.bytesOf
    rw [List.getElem?_map, List.getElem?_take, if_pos hj, List.getElem?_eq_getElem hz]
    rfl
  rw [e2, Option.some.injEq] at e
  rw [e, List.getD_eq_getElem?_getD, List.getElem?_eq_getElem hz]
  simp only [Option.getD_some]
  congr 2
  have hq : (UInt8.ofNat zs[j].toNat).toNat = zs[j].toNat := by rw [UInt8.toNat_ofNat']; exact Nat.mod_eq_of_lt (by omega)
  rw [hq]
  omega
/-- bytes.Join of the groups -/
theorem join_groups {w : World} {D gb cp : Nat} {ls : List (List UInt8)} {sv : Value} {sep : List UInt8} (hne : ls ≠ []) (hpos : ls.length = 1 → 0 < ls.flatten.length) (hcp : ls.length ≤ cp) (h80 : ls.flatten.length ≤ 80) (hl80 : ls.length ≤ 80) (hs1 : sep.length = 1)
    (hcell : ∀ j u, (vsOf D 0 ls)[j]? = some u → w.cell? ((⟨gb, 0, none⟩ : Addr).add j) = some u) (hD : ∀ (j : Nat) x, ls.flatten[j]? = some x → w.cell? ⟨D, j, none⟩ = some (.int .u8 (x.toNat : Int))) (hS : Lib.HoldsBytes w sv sep) :
    Calls Tryz.prog 253 #[.slice (some ⟨gb, 0, none⟩) ls.length cp, sv] w fun e w' => ∃ v', e = .returned v' ∧ Lib.FreshBytes w.heap.size w' v' (Lib.join ls sep) ∧ Below w.heap.size w w' := by
  by_cases h1 : ls.length = 1
  · match ls, h1, hne with
    | [x], _, _ =>
      have hx : x ≠ [] := by
        intro e
        have := hpos rfl
        simp [e] at this
      have hx1 : 0 < x.length := List.length_pos_iff.2 hx
      rw [Lib.join_one]
      have hx80 : x.length ≤ 80 := by simpa using h80
      have hc0 := hcell 0 _ rfl
      rw [add_none] at hc0
      exact Tryz.bytes_Join_one gb 0 cp ⟨D, 0, none⟩ x.length x sv w hc0 (fun i y hy => by rw [add_none, Nat.zero_add]; exact hD i y (by simpa using hy)) hx1 (by omega)
  · have h2 : 2 ≤ ls.length := by
      have : ls.length ≠ 0 := fun e => hne (List.length_eq_zero_iff.1 e)
      omega
    refine Tryz.bytes_Join_many gb 0 ls.length cp (vsOf D 0 ls) ls sv sep w rfl h2 ⟨vsOf_length _ _ _, hcell, ?_⟩ hcp hS (by omega) (by rw [lens_flatten, hs1]; omega)
    exact vsOf_holds 0 ls (fun j x hx => by rw [Nat.zero_add]; exact hD j x hx)
end Go.Proofs.YtebheehjhnaklaaGreatDoor
namespace Go.Proofs.YtebheehjhnaklaaGreatDoor
open Go.RowKit
set_option maxRecDepth 100000 in
set_option maxHeartbeats 4000000 in
theorem GroupDigits_some (s : ByteArray) (n : Nat) (sep : ByteArray) (w : World) (hs : s.size ≤ 80) (hs0 : 1 ≤ s.size) (hn0 : 1 ≤ n) (hn1 : n ≤ 9) (hsep : sep.size = 1) :
    Calls Tryz.prog 207 #[.string s, .int .i64 n, .string sep] w fun r w' => r = .returned (.string ⟨(grp n sep.data.toList s.data.toList).toArray⟩) ∧ Below w.heap.size w w' := by
  have k1 := fun W => within_any n 1 9 W
  rw [show inr n 1 9 = true by simp [inr]; omega] at k1
  have K1 := Lib.hid k1
  clear k1
  obtain ⟨cap, W1, hconv, hcap, hz1, hB1, hcell⟩ := bytes_world w s
  have HC := Lib.hid hcell
  clear hcell
  have hm0 : ((s.size : Int) - 1).tmod n = (((s.size - 1) % n : Nat) : Int) := by
    rw [show ((s.size : Int) - 1) = ((s.size - 1 : Nat) : Int) by omega]
    rw [Int.tmod_eq_emod_of_nonneg (by omega)]
    rfl
  have hm1 := Nat.mod_lt (s.size - 1) (show 0 < n by omega)
  generalize hR : (s.size - 1) % n = R at *
  obtain ⟨i0, hi, hz0, hzz1, hzz2⟩ := info_parts Tryz.infoRow
  have hll : s.data.toList.length = s.size := by rw [Array.length_toList]; rfl
  have hR2 : (s.data.toList.length - 1) % n + 1 = R + 1 := by rw [hll, hR]
  have HR := Lib.hid hR
  clear hR
  go_enter Tryz.func207, Tryz.ntmps207
  go_wp2_with (go_at_call 44; (with_reducible refine Calls.mono (K1.out _) ?_); rintro r w1 ⟨rfl, rfl⟩)
  go_loopg [8, 9, 10] s.size (fun g s8 s9 s10 wr => ∃ (p e : Nat) (ls : List (List UInt8)), s9 = .int .i64 p ∧ s10 = .int .i64 e ∧ p ≤ s.size ∧ ls.length ≤ p ∧ wr.ownsRow (w.heap.size + 1) 22 1 s8 ls.length (vsOf w.heap.size 0 ls) ∧ Below (w.heap.size + 1) W1 wr ∧ Aside (GSt s.data.toList n sep.data.toList p e ls) ∧ Aside (g = s.size - p))
  case atStart => exact ⟨0, R + 1, [], rfl, by go_num, by omega, by simp, World.ownsRow_nil _ _ _ _, Below.refl _ _, by rw [← hR2]; exact GSt.init _ _ _, by show _ = _; omega⟩
  case round =>
    obtain ⟨p, e, ls, rfl, rfl, hp, hlp, hown, hbl, hG, hg⟩ := hrel
    have hG' := hG.out
    have hg' := hg.out
    clear hG hg
    have hwz := hbl.size
    by_cases hlt : p < s.size
    · obtain ⟨q1, q2, q3⟩ := hG'.next hn0 (by omega)
      rw [hll] at q2
      have hfl : ls.flatten.length = p := by rw [hG'.flat, List.length_take]; omega
      have Q3 := Lib.hid q3
      clear q3 hG'
      have i1 : (p : Int) < s.size := by omega
      have i2 : (p : Int) < e := by omega
      have i3 : (p : Int) ≤ e := by omega
      have i4 : (e : Int) ≤ cap := by omega
      go_wp2_with (at_builtin; refine wpList_append_own _ rfl (.tmp 39) (.tmp 45) 188 rfl (w.heap.size + 1) 22 i0 (.slice none 0 0) 1 24 Tryz.underlying188 hi hz0 hzz1 hzz2 rfl (by decide) _ _ _ rfl (hown.alloc _) ⟨wr.heap.size, 0, none⟩ 1 1 [.slice (some ⟨w.heap.size, p, none⟩) (e - p) (e - p)] rfl rfl (by intro j u hj; match j, hj with | 0, hj => simp at hj; subst hj; simp [Addr.add, go_sem]) (by intro u hu; simp at hu; subst hu; rfl) (by simp only [maxLen]; omega) (by omega) (by simp; omega) ?_; intro v' w1 hown' hgrow _)
      have hn2 : w1.ownsRow (w.heap.size + 1) 22 1 v' (ls ++ [(s.data.toList.drop p).take (e - p)]).length (vsOf w.heap.size 0 (ls ++ [(s.data.toList.drop p).take (e - p)])) := by
        rw [vsOf_snoc, List.length_append, hfl, Nat.zero_add, show ((s.data.toList.drop p).take (e - p)).length = e - p by rw [List.length_take, List.length_drop]; omega]
        exact hown'
      have hb2 : Below (w.heap.size + 1) W1 w1 := (hbl.alloc (by omega) _).grown hgrow (by simp; omega) (fun j hj => by have := (hown.lt j hj).1; omega)
      go_roundg (s.size - e)
      case measure => omega
      case rel => exact ⟨e, e + n, ls ++ [(s.data.toList.drop p).take (e - p)], rfl, by go_num, q2, by rw [List.length_append]; simp; omega, hn2, hb2, Q3.out, rfl⟩
    · have i1 : ¬ (p : Int) < s.size := by omega
      obtain ⟨f1, f2, f3⟩ := hG'.done (by omega) (by omega)
      have F2 := Lib.hid f2
      clear hG' f2
      obtain ⟨cap2, W2, hconv2, hcap2, hz2, hB2, hcell2⟩ := bytes_world wr sep
      rw [hsep] at hconv2
      have hcs := hown.2
      have hcells := hown
      rcases hcs with ⟨_, h0⟩ | ⟨gb, cp, cur, rfl, hgB, hgc, hgn, _⟩
      · exact absurd (List.length_eq_zero_iff.1 h0) f1
      have hgl : gb < wr.heap.size := (Array.getElem?_eq_some_iff.1 hgc).1
      have hJ := join_groups (w := W2) (D := w.heap.size) (gb := gb) (cp := cp) (ls := ls) (sv := .slice (some ⟨wr.heap.size, 0, none⟩) 1 cap2) (sep := sep.data.toList) f1 (fun _ => by rw [f3]; omega) hgn (by rw [f3]; omega) (by omega) (by rw [Array.length_toList]; exact hsep)
        (fun j u hu => by have := hcells.cells (g := gb) rfl j u hu; rw [add_none] at this ⊢; exact (hB2.cell (p := ⟨gb, 0 + j, none⟩) hgl).trans this)
        (fun j x hx => by rw [f3] at hx; exact (hB2.cell (p := ⟨w.heap.size, j, none⟩) (by simp only; omega)).trans ((hbl.cell (p := ⟨w.heap.size, j, none⟩) (by simp only; omega)).trans (HC.out j x hx)))
        ⟨some ⟨wr.heap.size, 0, none⟩, cap2, by rw [Array.length_toList, show sep.data.size = 1 from hsep], by simp, fun a ha i y hy => by simp only [Option.some.injEq] at ha; subst ha; rw [add_none, Nat.zero_add]; exact hcell2 i y hy⟩
      rw [F2.out] at hJ
      have HJ := Lib.hid hJ
      have hBw : Below w.heap.size w W2 := (hB1.trans (hbl.mono (by omega))).trans (hB2.mono (by omega))
      clear hJ hcell2 hcells hown hconv hgc
      go_wp2_with (go_at_call 253; (with_reducible refine Calls.mono HJ.out ?_); rintro r w3 ⟨v3, rfl, hfr, hb3⟩; (obtain ⟨g3, c3, rfl, hc3⟩ := fresh_cells hfr); have hback := run_convert_bytes_back (P := Tryz.prog) w3 22 9 5 ⟨g3, 0, none⟩ c3 _ Tryz.underlying22 Tryz.underlying5 Tryz.underlying9 hc3; clear hc3 hfr)
      go_ret
      exact ⟨rfl, hBw.trans (hb3.mono (by have := hBw.size; omega))⟩
end Go.Proofs.YtebheehjhnaklaaGreatDoor
