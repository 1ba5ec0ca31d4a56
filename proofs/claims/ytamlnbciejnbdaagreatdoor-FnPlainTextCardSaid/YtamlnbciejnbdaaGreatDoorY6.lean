import Derived.Test.YtamlnbciejnbdaaGreatDoorY5
import Derived.OwnWalk
namespace Go.Proofs.YtamlnbciejnbdaaGreatDoor
open Go.RowKit
theorem Tryz.infoRow : (Tryz.prog.info? 22).map (fun i => (i.zero, i.size, i.bytes)) = some (some (.slice none 0 0), 1, 24) := by kernel_rfl
/-- the world behind '[]byte(s)' -/
theorem bytes_world (w : World) (s : ByteArray) : ∃ (cap : Nat) (W1 : World), (convert 9 22 (.string s)).run Tryz.prog w = .ok (.slice (some ⟨w.heap.size, 0, none⟩) s.size cap) W1 ∧ s.size ≤ cap ∧ W1.heap.size = w.heap.size + 1 ∧ Below w.heap.size w W1 ∧
    ∀ (j : Nat) x, s.data.toList[j]? = some x → W1.cell? ⟨w.heap.size, j, none⟩ = some (.int .u8 (x.toNat : Int)) := by
  refine ⟨_, _, run_bytes_of_string w 9 22 5 s Tryz.underlying9 Tryz.underlying22 Tryz.underlying5, grownCap_ge _ _ _ _, by simp [World.alloc], ?_, ?_⟩
  · exact (Below.refl w.heap.size w).drew.alloc (Nat.le_refl _) _
  · intro j x hx
    refine (World.cell?_alloc_mark w.drew _ _ _ j).trans ?_
    have hj : j < s.data.size := by simpa using (List.getElem?_eq_some_iff.1 hx).1
    rw [bytesRow_at s _ j hj]
    have := (List.getElem?_eq_some_iff.1 hx).2
    rw [← this]
    rfl
theorem fresh_cells {B : Nat} {w : World} {v : Value} {l : List UInt8} (h : Lib.FreshBytes B w v l) : ∃ g cap, v = .slice (some ⟨g, 0, none⟩) l.length cap ∧ ∀ j (hj : j < l.length), w.cell? ((⟨g, 0, none⟩ : Addr).add j) = some (.int .u8 (l[j].toNat : Int)) := by
  obtain ⟨g, cap, zs, rfl, _, h1, _, h2, h3, h4, h5, _⟩ := h
  refine ⟨g, cap, rfl, fun j hj => ?_⟩
  rw [add_none, Nat.zero_add, h5 j (by omega)]
  have hz : j < zs.length := by omega
  have e : l[j]? = (Lib.bytesOf (zs.take l.length))[j]? := by rw [h4]
  rw [List.getElem?_eq_getElem hj] at e
  have hb := h3 zs[j] (List.getElem_mem hz)
  have e2 : (Lib.bytesOf (zs.take l.length))[j]? = some (UInt8.ofNat zs[j].toNat) := by
    unfold Lib.bytesOf
    rw [List.getElem?_map, List.getElem?_take, if_pos hj, List.getElem?_eq_getElem hz]
    rfl
  rw [e2, Option.some.injEq] at e
  rw [e, List.getD_eq_getElem?_getD, List.getElem?_eq_getElem hz]
  simp only [Option.getD_some]
  congr 2
  have hq : (UInt8.ofNat zs[j].toNat).toNat = zs[j].toNat := by rw [UInt8.toNat_ofNat']; exact Nat.mod_eq_of_lt (by omega)
  rw [hq]
  omega
/-- bytes.Join of the groups -/
theorem join_groups {w : World} {D gb cp : Nat} {ls : List (List UInt8)} {sv : Value} {sep : List UInt8} (hne : ls ≠ []) (hpos : ls.length = 1 → 0 < ls.flatten.length) (hcp : ls.length ≤ cp) (h80 : ls.flatten.length ≤ 80) (hl80 : ls.length ≤ 80) (hs1 : sep.length = 1)
    (hcell : ∀ j u, (vsOf D 0 ls)[j]? = some u → w.cell? ((⟨gb, 0, none⟩ : Addr).add j) = some u) (hD : ∀ (j : Nat) x, ls.flatten[j]? = some x → w.cell? ⟨D, j, none⟩ = some (.int .u8 (x.toNat : Int))) (hS : Lib.HoldsBytes w sv sep) :
    Calls Tryz.prog 167 #[.slice (some ⟨gb, 0, none⟩) ls.length cp, sv] w fun e w' => ∃ v', e = .returned v' ∧ Lib.FreshBytes w.heap.size w' v' (Lib.join ls sep) ∧ Below w.heap.size w w' := by
  by_cases h1 : ls.length = 1
  · match ls, h1, hne with
    | [x], _, _ =>
      have hx : x ≠ [] := by
        intro e
        have := hpos rfl
        simp [e] at this
      have hx1 : 0 < x.length := List.length_pos_iff.2 hx
      rw [Lib.join_one]
      have hx80 : x.length ≤ 80 := by simpa using h80
      have hc0 := hcell 0 _ rfl
      rw [add_none] at hc0
      exact Tryz.bytes_Join_one gb 0 cp ⟨D, 0, none⟩ x.length x sv w hc0 (fun i y hy => by rw [add_none, Nat.zero_add]; exact hD i y (by simpa using hy)) hx1 (by omega)
  · have h2 : 2 ≤ ls.length := by
      have : ls.length ≠ 0 := fun e => hne (List.length_eq_zero_iff.1 e)
      omega
    refine Tryz.bytes_Join_many gb 0 ls.length cp (vsOf D 0 ls) ls sv sep w rfl h2 ⟨vsOf_length _ _ _, hcell, ?_⟩ hcp hS (by omega) (by rw [lens_flatten, hs1]; omega)
    exact vsOf_holds 0 ls (fun j x hx => by rw [Nat.zero_add]; exact hD j x hx)
end Go.Proofs.YtamlnbciejnbdaaGreatDoor
