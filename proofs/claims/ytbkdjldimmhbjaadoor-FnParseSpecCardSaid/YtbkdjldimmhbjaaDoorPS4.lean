import Derived.Test.YtbkdjldimmhbjaaDoorPS3
import Derived.Test.YtbkdjldimmhbjaaDoorW5
import Derived.Laws.IdiomStrings
namespace Go.Proofs.YtbkdjldimmhbjaaDoor
open Go Go.RowKit
/-- the runes of a text from a place on -/
def rnF (s : ByteArray) : Nat → Nat → List Int
  | 0, _ => []
  | n + 1, i => if i < s.size then Int.ofNat (Utf8.decode s i).1 :: rnF s n (i + (Utf8.decode s i).2) else []
def rnL (s : ByteArray) : List Int := rnF s s.size 0
theorem runesFrom_eq (s : ByteArray) : ∀ (n i : Nat) (acc : Array Value), Conv.runesFrom s n i acc = acc ++ ((rnF s n i).map (Value.int .i32)).toArray
  | 0, _, acc => by simp [Conv.runesFrom, rnF]
  | n + 1, i, acc => by
    unfold Conv.runesFrom rnF
    by_cases h : i < s.size
    · rw [if_pos h, if_pos h]
      have ih := runesFrom_eq s n (i + (Utf8.decode s i).2) (acc.push (.int .i32 (Int.ofNat (Utf8.decode s i).1)))
      refine Eq.trans ih ?_
      apply Array.ext'
      simp
    · rw [if_neg h, if_neg h]
      simp
theorem rnF_pos (s : ByteArray) : ∀ (n i : Nat), ∀ r ∈ rnF s n i, 0 ≤ r
  | 0, _ => fun r hr => by simp [rnF] at hr
  | n + 1, i => fun r hr => by
    unfold rnF at hr
    split at hr
    · rcases List.mem_cons.1 hr with rfl | hr
      · exact Int.natCast_nonneg _
      · exact rnF_pos s n _ r hr
    · cases hr
theorem rnF_ascii (s : ByteArray) (hs : ∀ b ∈ s.data.toList, b.toNat < 128) : ∀ (n i : Nat), s.size ≤ i + n → rnF s n i = (s.data.toList.drop i).map (fun b => (b.toNat : Int))
  | 0, i => fun h => by
    rw [List.drop_eq_nil_of_le (by rw [Array.length_toList]; exact h)]
    rfl
  | n + 1, i => fun h => by
    unfold rnF
    by_cases hi : i < s.size
    · rw [if_pos hi, decode_ascii s i hi (hs _ (byte_at hi)), rnF_ascii s hs n (i + 1) (by omega)]
      have hl : i < s.data.toList.length := by rw [Array.length_toList]; exact hi
      rw [List.drop_eq_getElem_cons hl, List.map_cons]
      rfl
    · rw [if_neg hi, List.drop_eq_nil_of_le (by rw [Array.length_toList]; show s.size ≤ i; omega)]
      rfl
theorem rnF_len (s : ByteArray) : ∀ (n i : Nat), (rnF s n i).length ≤ n
  | 0, _ => Nat.le_refl 0
  | n + 1, i => by
    unfold rnF
    split
    · have := rnF_len s n (i + (Utf8.decode s i).2)
      simp
      omega
    · simp
/-- the world behind '[]rune(s)' -/
theorem runes_world (w : World) (s : ByteArray) (hs : s.size ≤ 70368744177664) : ∃ (cap : Nat) (W1 : World), (convert 9 49 (.string s)).run Tryd.prog w = .ok (.slice (some ⟨w.heap.size, 0, none⟩) (rnL s).length cap) W1 ∧ (rnL s).length ≤ cap ∧ W1.heap.size = w.heap.size + 1 ∧ Below w.heap.size w W1 ∧
    ∀ i (h : i < (rnL s).length), W1.cell? ⟨w.heap.size, i, none⟩ = some (.int .i32 (rnL s)[i]) := by
  have e : Conv.runesFrom s s.size 0 #[] = ((rnL s).map (Value.int .i32)).toArray := by
    rw [runesFrom_eq]; simp [rnL]
  have ez : (Conv.runesFrom s s.size 0 #[]).size = (rnL s).length := by rw [e]; simp
  have hlen := rnF_len s s.size 0
  have h := run_runes_of_string w 9 49 21 s Tryd.underlying9 Tryd.underlying49 Tryd.underlying21 (by rw [ez]; show (rnF s s.size 0).length ≤ _; omega)
  rw [ez] at h
  refine ⟨_, _, h, grownCap_ge _ _ _ _, by simp [World.alloc], (Below.refl w.heap.size w).drew.alloc (Nat.le_refl _) _, fun i hi => ?_⟩
  refine (World.cell?_alloc_mark w.drew _ _ _ i).trans ?_
  rw [e, Array.getElem?_append_left (by simpa using hi)]
  simp [hi]
/-- the fill that is read -/
def fillS : Option Int → ByteArray
  | none => ⟨#[]⟩
  | some a => Utf8.encode a
def TookS (R : Nat) (x : ByteArray) (L : List Int) (w : World) (r : Ending) (w' : World) : Prop := r = .returned (.string x) ∧ SRd R L w' ∧ Kp R w.heap.size w w'
set_option maxRecDepth 100000 in
set_option maxHeartbeats 4000000 in
theorem fill_any (R : Nat) (L : List Int) (w : World) (h : SRd R L w) :
    Calls Tryd.prog 27 #[.pointer (some ⟨R, 0, none⟩)] w (TookS R (fillS (tkF ixI L).1) (tkF ixI L).2 w) := by
  have hS := h
  obtain ⟨B, o, cap, a, b, c, d, e, f, g, i⟩ := h
  rcases L with _ | ⟨r, _ | ⟨r2, L⟩⟩
  · have HS := Lib.hid hS
    clear hS g i
    go_enter Tryd.func27, Tryd.ntmps27
    go_wp2
    go_ret
    exact ⟨rfl, HS.out, Kp.refl _ _ _⟩
  · have HS := Lib.hid hS
    clear hS g i
    go_enter Tryd.func27, Tryd.ntmps27
    go_wp2
    go_ret
    exact ⟨rfl, HS.out, Kp.refl _ _ _⟩
  · have g0 := g 0 (by simp)
    rw [Nat.add_zero, show (r :: r2 :: L)[0]'(by simp) = r from rfl] at g0
    have g1 := g 1 (by simp)
    rw [show (r :: r2 :: L)[1]'(by simp) = r2 from rfl] at g1
    have r20 : 0 ≤ r2 := i r2 (by simp)
    have k1 := fun W => ContainsRune_any ⟨#[60, 62, 94, 61]⟩ ascii_al4 r2 r20 W
    change ∀ W, Calls _ _ _ W (fun e w' => e = .returned (.bool (decide (0 ≤ ixI al4 r2))) ∧ _) at k1
    have hT : (decide (0 ≤ ixI al4 r2) = true → tkF ixI (r :: r2 :: L) = (some r, r2 :: L)) ∧ (decide (0 ≤ ixI al4 r2) = false → tkF ixI (r :: r2 :: L) = (none, r :: r2 :: L)) := by
      constructor
      · intro h; show (if _ then _ else _) = _; rw [if_pos (by simpa using h)]
      · intro h; show (if _ then _ else _) = _; rw [if_neg (by simpa using h)]
    generalize tkF ixI (r :: r2 :: L) = T at *
    generalize decide (0 ≤ ixI al4 r2) = k at *
    have HS := Lib.hid hS
    have G := Lib.hid g; have I := Lib.hid i
    have E := Lib.hid e
    have D := Lib.hid d
    clear hS g i
    have e' : w.cell? ⟨R, 0, none⟩ = some (.slice (some ⟨B, o, none⟩) (L.length + 1 + 1) cap) := e
    clear e
    have f' : L.length + 1 + 1 ≤ cap := f
    clear f
    have hc1 : ¬ cap = 1 := by omega
    cases k
    · rw [hT.2 rfl]
      have K1 := Lib.hid k1
      clear k1 hT
      go_enter Tryd.func27, Tryd.ntmps27
      go_wp2_with (go_at_call 58; (with_reducible refine Calls.mono (K1.out _) ?_); rintro rr w1 ⟨rfl, hb⟩; obtain ⟨hc, hf⟩ := bcellP hb)
      go_ret
      exact ⟨rfl, HS.out.carry hb, Kp.of_below hb a⟩
    · rw [hT.1 rfl]
      have K1 := Lib.hid k1
      clear k1 hT
      go_enter Tryd.func27, Tryd.ntmps27
      go_wp2_with (go_at_call 58; (with_reducible refine Calls.mono (K1.out _) ?_); rintro rr w1 ⟨rfl, hb⟩; obtain ⟨hc, hf⟩ := bcellP hb)
      go_ret
      exact ⟨rfl, SRd.next (Nat.lt_of_lt_of_le a hb.size) c ((hb.frozen a).trans D.out) ((hb.cell a).trans E.out) (fun j hj => (hb.cell b).trans (G.out j hj)) I.out rfl (by show L.length + 1 ≤ _; omega) (.inl rfl), (Kp.of_below hb a).setR _ _⟩
end Go.Proofs.YtbkdjldimmhbjaaDoor
