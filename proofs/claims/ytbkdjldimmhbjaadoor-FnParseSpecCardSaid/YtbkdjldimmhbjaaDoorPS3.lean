import Derived.Test.YtbkdjldimmhbjaaDoorPS2
import Derived.Test.YtbkdjldimmhbjaaDoorR2
namespace Go.Proofs.YtbkdjldimmhbjaaDoor
open Go Go.RowKit
theorem Kp.setR {R : Nat} {a b : World} (h : Kp R a.heap.size a b) (o : Nat) (v : Value) : Kp R a.heap.size a (b.setCell ⟨R, o, none⟩ v) :=
  have h0 : Below R b (b.setCell ⟨R, o, none⟩ v) := Below.setCell (p := ⟨R, o, none⟩) (Below.refl R b) (Nat.le_refl _) v
  ⟨h.os, h.tape, h.output, Nat.le_trans h.size h0.size, fun k hk hn => (Below.heap_setCell _ _ _ _ hn).trans (h.block k hk hn), fun o' => (set_frozen _ _ _ _ _).trans (h.froz o')⟩
/-- a reader of runes at block R: what is left is L -/
def SRd (R : Nat) (L : List Int) (W : World) : Prop := ∃ B o cap : Nat, R < W.heap.size ∧ B < W.heap.size ∧ B < R ∧ W.frozen? ⟨R, 0, none⟩ = false ∧ W.cell? ⟨R, 0, none⟩ = some (.slice (some ⟨B, o, none⟩) L.length cap) ∧ L.length ≤ cap ∧ (∀ i (h : i < L.length), W.cell? ⟨B, o + i, none⟩ = some (.int .i32 L[i])) ∧ (∀ r ∈ L, 0 ≤ r)
theorem SRd.keep {R : Nat} {L : List Int} {w w' : World} (h : SRd R L w) (hs : w.heap.size ≤ w'.heap.size) (hc : ∀ b o, b < w.heap.size → w'.cell? ⟨b, o, none⟩ = w.cell? ⟨b, o, none⟩) (hf : w'.frozen? ⟨R, 0, none⟩ = w.frozen? ⟨R, 0, none⟩) : SRd R L w' := by
  obtain ⟨B, o, cap, a, b, c, d, e, f, g, i⟩ := h
  exact ⟨B, o, cap, by omega, by omega, c, hf.trans d, (hc _ _ a).trans e, f, fun j hj => (hc _ _ b).trans (g j hj), i⟩
theorem SRd.carry {R : Nat} {L : List Int} {w w' : World} (h : SRd R L w) (hb : Below w.heap.size w w') : SRd R L w' :=
  h.keep hb.size (fun _ _ h1 => hb.cell h1) (hb.frozen (by obtain ⟨B, o, cap, a, _⟩ := h; exact a))
theorem SRd.lt {R : Nat} {L : List Int} {w : World} (h : SRd R L w) : R < w.heap.size := by obtain ⟨B, o, cap, a, _⟩ := h; exact a
theorem SRd.up {R : Nat} {L : List Int} {w : World} (h : SRd R L w) (x : Obj) : SRd R L (w.alloc x) := h.carry ((Below.refl _ _).alloc (Nat.le_refl _) _)
theorem SRd.drew {R : Nat} {L : List Int} {w : World} (h : SRd R L w) : SRd R L w.drew := h
theorem SRd.far {R : Nat} {L : List Int} {w : World} (h : SRd R L w) {g o : Nat} (hg : R < g) (v : Value) : SRd R L (w.setCell ⟨g, o, none⟩ v) := by
  have h0 : Below g w (w.setCell ⟨g, o, none⟩ v) := Below.setCell (p := ⟨g, o, none⟩) (Below.refl g w) (Nat.le_refl _) v
  obtain ⟨B, o', cap, a, b, c, d, e, f, g', i⟩ := h
  exact ⟨B, o', cap, Nat.lt_of_lt_of_le a h0.size, Nat.lt_of_lt_of_le b h0.size, c, (h0.frozen (p := ⟨R, 0, none⟩) hg).trans d, (h0.cell (p := ⟨R, 0, none⟩) hg).trans e, f, fun j hj => (h0.cell (p := ⟨B, o' + j, none⟩) (Nat.lt_trans c hg)).trans (g' j hj), i⟩
/-- one rune less -/
theorem SRd.next {R B o cap : Nat} {r : Int} {L : List Int} {W : World} (a : R < W.heap.size) (c : B < R) (d : W.frozen? ⟨R, 0, none⟩ = false) (e : W.cell? ⟨R, 0, none⟩ = some (.slice (some ⟨B, o, none⟩) (r :: L).length cap)) (g : ∀ i (h : i < (r :: L).length), W.cell? ⟨B, o + i, none⟩ = some (.int .i32 (r :: L)[i])) (i : ∀ x ∈ r :: L, 0 ≤ x)
    {o' cap' n' : Nat} (hn : n' = L.length) (hcap : L.length ≤ cap') (ho : o' = o + 1 ∨ L = []) : SRd R L (W.setCell ⟨R, 0, none⟩ (.slice (some ⟨B, o', none⟩) n' cap')) := by
  subst hn
  have h0 : Below R W (W.setCell ⟨R, 0, none⟩ (.slice (some ⟨B, o', none⟩) L.length cap')) := Below.setCell (p := ⟨R, 0, none⟩) (Below.refl R W) (Nat.le_refl _) _
  refine ⟨B, o', cap', by have := h0.size; omega, by have := h0.size; omega, c, ?_, ?_, hcap, fun j hj => ?_, fun x hx => i x (by simp [hx])⟩
  · rw [set_frozen]; exact d
  · simp [go_sem, e]
  · have hb : (W.setCell ⟨R, 0, none⟩ (.slice (some ⟨B, o', none⟩) L.length cap')).cell? ⟨B, o' + j, none⟩ = W.cell? ⟨B, o' + j, none⟩ := by
      simp only [World.cell?, Below.heap_setCell W ⟨R, 0, none⟩ (.slice (some ⟨B, o', none⟩) L.length cap') B (Nat.ne_of_lt c)]
    rw [hb]
    rcases ho with rfl | rfl
    · have := g (j + 1) (by simp; omega)
      rw [show o + 1 + j = o + (j + 1) by omega, this]
      rfl
    · simp at hj
theorem bcellP {W w1 : World} (hb : Below W.heap.size W w1) : (∀ b o, b < W.heap.size → w1.cell? ⟨b, o, none⟩ = W.cell? ⟨b, o, none⟩) ∧ (∀ b o, b < W.heap.size → w1.frozen? ⟨b, o, none⟩ = W.frozen? ⟨b, o, none⟩) :=
  ⟨fun b o h => hb.cell (p := ⟨b, o, none⟩) h, fun b o h => hb.frozen (p := ⟨b, o, none⟩) h⟩
def Took (R : Nat) (k : Int) (L : List Int) (w : World) (r : Ending) (w' : World) : Prop := r = .returned (.int .i64 k) ∧ SRd R L w' ∧ Kp R w.heap.size w w'
theorem ixI_ge (ms : List UInt8) (r : Int) : -1 ≤ ixI ms r := by
  unfold ixI
  split
  · exact Lib.indexByte_ge _ _
  · omega
theorem ixI_le (ms : List UInt8) (r : Int) : ixI ms r + 1 ≤ ms.length := by
  unfold ixI
  split
  · generalize r.toNat.toUInt8 = c
    induction ms with
    | nil => show (-1 : Int) + 1 ≤ _; simp
    | cons a l ih =>
      rw [Lib.indexByte]
      simp only [List.length_cons]
      split
      · omega
      · split
        · omega
        · omega
  · omega
set_option maxRecDepth 100000 in
set_option maxHeartbeats 4000000 in
theorem take_any (R : Nat) (L : List Int) (m : ByteArray) (hm : ∀ b ∈ m.data.toList, b.toNat < 128) (hz : m.size ≤ 100) (w : World) (h : SRd R L w) :
    Calls Tryd.prog 28 #[.pointer (some ⟨R, 0, none⟩), .string m] w (Took R (tk ixI m.data.toList L).1 (tk ixI m.data.toList L).2 w) := by
  have hS := h
  obtain ⟨B, o, cap, a, b, c, d, e, f, g, i⟩ := h
  cases L with
  | nil =>
    have HS := Lib.hid hS
    clear hS g i
    go_enter Tryd.func28, Tryd.ntmps28
    go_wp2
    go_ret
    exact ⟨rfl, HS.out, Kp.refl _ _ _⟩
  | cons r L =>
    have g0 := g 0 (by simp)
    rw [Nat.add_zero, show (r :: L)[0]'(by simp) = r from rfl] at g0
    have r0 : 0 ≤ r := i r (by simp)
    have k1 := fun W => IndexRune_any m hm r r0 W
    have p1 := ixI_ge m.data.toList r
    have p2 := ixI_le m.data.toList r
    have ml : m.data.toList.length = m.size := by rw [Array.length_toList]; rfl
    rw [ml] at p2
    have hT : (0 ≤ ixI m.data.toList r → tk ixI m.data.toList (r :: L) = (ixI m.data.toList r + 1, L)) ∧ (¬ 0 ≤ ixI m.data.toList r → tk ixI m.data.toList (r :: L) = (0, r :: L)) := by
      constructor
      · intro h; show (if _ then _ else _) = _; rw [if_pos h]
      · intro h; show (if _ then _ else _) = _; rw [if_neg h]
    generalize tk ixI m.data.toList (r :: L) = T at *
    generalize ixI m.data.toList r = k at *
    have K1 := Lib.hid k1
    have HS := Lib.hid hS
    have G := Lib.hid g; have I := Lib.hid i
    have E := Lib.hid e
    have D := Lib.hid d
    clear k1 hS g i hm ml
    have e' : w.cell? ⟨R, 0, none⟩ = some (.slice (some ⟨B, o, none⟩) (L.length + 1) cap) := e
    clear e
    have f' : L.length + 1 ≤ cap := f
    clear f
    have z0 : ((L.length : Int) + 1 == 0) = false := by simp; omega
    by_cases hk : 0 ≤ k
    · rw [hT.1 hk]
      clear hT
      by_cases hc1 : cap = 1
      · subst hc1
        have hl0 : L = [] := List.length_eq_zero_iff.1 (by omega)
        subst hl0
        go_enter Tryd.func28, Tryd.ntmps28
        go_wp2_with (go_at_call 59; (with_reducible refine Calls.mono (K1.out _) ?_); rintro rr w1 ⟨rfl, hb⟩; obtain ⟨hc, hf⟩ := bcellP hb)
        go_ret
        exact ⟨rfl, SRd.next (Nat.lt_of_lt_of_le a hb.size) c ((hb.frozen a).trans D.out) ((hb.cell a).trans E.out) (fun j hj => (hb.cell b).trans (G.out j hj)) I.out rfl (by simp) (.inr rfl), (Kp.of_below hb a).setR _ _⟩
      · go_enter Tryd.func28, Tryd.ntmps28
        go_wp2_with (go_at_call 59; (with_reducible refine Calls.mono (K1.out _) ?_); rintro rr w1 ⟨rfl, hb⟩; obtain ⟨hc, hf⟩ := bcellP hb)
        go_ret
        exact ⟨rfl, SRd.next (Nat.lt_of_lt_of_le a hb.size) c ((hb.frozen a).trans D.out) ((hb.cell a).trans E.out) (fun j hj => (hb.cell b).trans (G.out j hj)) I.out rfl (by omega) (.inl rfl), (Kp.of_below hb a).setR _ _⟩
    · rw [hT.2 hk]
      have hk1 : k = -1 := by omega
      subst hk1
      clear hT
      go_enter Tryd.func28, Tryd.ntmps28
      go_wp2_with (go_at_call 59; (with_reducible refine Calls.mono (K1.out _) ?_); rintro rr w1 ⟨rfl, hb⟩; obtain ⟨hc, hf⟩ := bcellP hb)
      go_ret
      exact ⟨rfl, HS.out.carry hb, Kp.of_below hb a⟩
theorem ascii_al4 : ∀ b ∈ (⟨#[60, 62, 94, 61]⟩ : ByteArray).data.toList, b.toNat < 128 := by decide
theorem ascii_d19 : ∀ b ∈ (⟨#[49, 50, 51, 52, 53, 54, 55, 56, 57]⟩ : ByteArray).data.toList, b.toNat < 128 := by decide
theorem ascii_d09 : ∀ b ∈ (⟨#[48, 49, 50, 51, 52, 53, 54, 55, 56, 57]⟩ : ByteArray).data.toList, b.toNat < 128 := by decide
theorem ascii_46 : ∀ b ∈ (⟨#[46]⟩ : ByteArray).data.toList, b.toNat < 128 := by decide
theorem tk_bd (ms : List UInt8) (L : List Int) : 0 ≤ (tk ixI ms L).1 ∧ (tk ixI ms L).1 ≤ ms.length := by
  cases L with
  | nil => exact ⟨Int.le_refl 0, by show (0 : Int) ≤ _; omega⟩
  | cons r L =>
    have := ixI_le ms r
    show 0 ≤ (if 0 ≤ ixI ms r then (ixI ms r + 1, L) else (0, r :: L)).1 ∧ (if 0 ≤ ixI ms r then (ixI ms r + 1, L) else (0, r :: L)).1 ≤ _
    split
    · exact ⟨by show 0 ≤ ixI ms r + 1; omega, by show ixI ms r + 1 ≤ _; omega⟩
    · exact ⟨Int.le_refl 0, by show (0 : Int) ≤ _; omega⟩
theorem Took.mk {R : Nat} {k : Int} {L : List Int} {w w' : World} (h : SRd R L w') (hk : Kp R w.heap.size w w') : Took R k L w (.returned (.int .i64 k)) w' := ⟨rfl, h, hk⟩
set_option maxRecDepth 100000 in
set_option maxHeartbeats 4000000 in
theorem width_any (R : Nat) (L : List Int) (w : World) (h : SRd R L w) :
    Calls Tryd.prog 29 #[.pointer (some ⟨R, 0, none⟩)] w (Took R (tkW ixI L).1 (tkW ixI L).2 w) := by
  have k1 := take_any R L ⟨#[49, 50, 51, 52, 53, 54, 55, 56, 57]⟩ ascii_d19 (by decide) w h
  have b1 := tk_bd d19 L
  have q1 : d19.length = 9 := rfl
  have q2 : d09.length = 10 := rfl
  unfold tkW
  change Calls _ _ _ _ (Took R (tk ixI d19 L).1 (tk ixI d19 L).2 w) at k1
  simp only
  generalize tk ixI d19 L = T at *
  obtain ⟨x, L1⟩ := T
  dsimp only at *
  have K1 := Lib.hid k1
  clear k1 h
  by_cases hx : x = 0
  · rw [if_pos hx]
    have Hx := Lib.hid hx
    have hxb : (x == 0) = true := by simpa using hx
    clear hx
    go_enter Tryd.func29, Tryd.ntmps29
    go_wp2_with (go_at_call 28; (with_reducible refine Calls.mono K1.out ?_); rintro rr w1 ⟨rfl, hS, hk⟩)
    go_ret
    exact .mk hS hk
  · rw [if_neg hx]
    have hxb : (x == 0) = false := by simpa using hx
    clear hx
    have k2 := fun W hS => take_any R L1 ⟨#[48, 49, 50, 51, 52, 53, 54, 55, 56, 57]⟩ ascii_d09 (by decide) W hS
    have b2 := tk_bd d09 L1
    change ∀ W, SRd R L1 W → Calls _ _ _ _ (Took R (tk ixI d09 L1).1 (tk ixI d09 L1).2 W) at k2
    generalize tk ixI d09 L1 = T at *
    obtain ⟨y, L2⟩ := T
    dsimp only at *
    have K2 := Lib.hid k2
    clear k2
    by_cases hy : 0 < y
    · rw [if_pos hy]
      go_enter Tryd.func29, Tryd.ntmps29
      go_wp2_with (first | (go_at_call 28; (with_reducible refine Calls.mono K1.out ?_); rintro rr w1 ⟨rfl, hS, hk⟩) | (go_at_call 28; (with_reducible refine Calls.mono (K2.out _ hS) ?_); rintro rr w2 ⟨rfl, hS2, hk2⟩))
      go_ret
      exact .mk hS2 (hk.step hk2)
    · rw [if_neg hy]
      go_enter Tryd.func29, Tryd.ntmps29
      go_wp2_with (first | (go_at_call 28; (with_reducible refine Calls.mono K1.out ?_); rintro rr w1 ⟨rfl, hS, hk⟩) | (go_at_call 28; (with_reducible refine Calls.mono (K2.out _ hS) ?_); rintro rr w2 ⟨rfl, hS2, hk2⟩))
      go_ret
      exact .mk hS2 (hk.step hk2)
set_option maxRecDepth 100000 in
set_option maxHeartbeats 4000000 in
theorem prec_any (R : Nat) (L : List Int) (w : World) (h : SRd R L w) :
    Calls Tryd.prog 30 #[.pointer (some ⟨R, 0, none⟩)] w (Took R (tkP ixI L).1 (tkP ixI L).2 w) := by
  have k1 := take_any R L ⟨#[46]⟩ ascii_46 (by decide) w h
  have b1 := tk_bd [46] L
  have q2 : d09.length = 10 := rfl
  unfold tkP
  change Calls _ _ _ _ (Took R (tk ixI [46] L).1 (tk ixI [46] L).2 w) at k1
  simp only
  generalize tk ixI [46] L = T at *
  obtain ⟨x, L1⟩ := T
  dsimp only at *
  have K1 := Lib.hid k1
  clear k1 h
  by_cases hx : x = 0
  · rw [if_pos hx]
    have hxb : (x == 0) = true := by simpa using hx
    clear hx
    go_enter Tryd.func30, Tryd.ntmps30
    go_wp2_with (go_at_call 28; (with_reducible refine Calls.mono K1.out ?_); rintro rr w1 ⟨rfl, hS, hk⟩)
    go_ret
    exact .mk hS hk
  · rw [if_neg hx]
    have hxb : (x == 0) = false := by simpa using hx
    clear hx
    have k2 := fun W hS => take_any R L1 ⟨#[48, 49, 50, 51, 52, 53, 54, 55, 56, 57]⟩ ascii_d09 (by decide) W hS
    have b2 := tk_bd d09 L1
    change ∀ W, SRd R L1 W → Calls _ _ _ _ (Took R (tk ixI d09 L1).1 (tk ixI d09 L1).2 W) at k2
    generalize tk ixI d09 L1 = T at *
    obtain ⟨y, L2⟩ := T
    dsimp only at *
    have K2 := Lib.hid k2
    clear k2
    go_enter Tryd.func30, Tryd.ntmps30
    go_wp2_with (first | (go_at_call 28; (with_reducible refine Calls.mono K1.out ?_); rintro rr w1 ⟨rfl, hS, hk⟩) | (go_at_call 28; (with_reducible refine Calls.mono (K2.out _ hS) ?_); rintro rr w2 ⟨rfl, hS2, hk2⟩))
    go_ret
    exact .mk hS2 (hk.step hk2)
end Go.Proofs.YtbkdjldimmhbjaaDoor
