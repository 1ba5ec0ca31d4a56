import Derived.Test.YtebheehjhnaklaaGreatDoorN6
import Derived.Lib.AppendIntMem
namespace Go.Proofs.YtebheehjhnaklaaGreatDoor
open Go.RowKit
set_option maxRecDepth 100000 in
set_option maxHeartbeats 4000000 in
theorem formatBits_odd (b n : Nat) (h : b = 3 ∨ b = 5 ∨ b = 6 ∨ b = 7 ∨ b = 9 ∨ b = 11 ∨ b = 12 ∨ b = 13 ∨ b = 14 ∨ b = 15) (hn : n ≤ 999999999999) (w : World) :
    Calls Tryz.prog 283 #[.slice none 0 0, .int .u64 n, .int .i64 b, .bool false, .bool false] w fun r w' => r = .returned (.tuple #[.slice none 0 0, .string ⟨(digs false b n).toArray⟩]) ∧ Below w.heap.size w w' := by
  have kp := fun W => isPow_no b h W
  have h2 : 2 ≤ b := by omega
  have h16 : b ≤ 16 := by omega
  have i1 : 2 ≤ (b : Int) := by omega
  have i2 : (b : Int) ≤ 36 := by omega
  have i3 : ¬ (b : Int) = 10 := by omega
  have i4 : ((b : Int) == 10) = false := by simpa using i3
  have i5 : ¬ b = 10 := by omega
  have i6 : ¬ (b : Int) < 2 := by omega
  have i7 : ¬ (36 : Int) < b := by omega
  have i8 : ¬ b = 0 := by omega
  have KP := Lib.hid kp
  clear kp h
  have hI := Lib.hid (Buf.init w 233)
  have hBI : Below w.heap.size w (w.alloc (.cells Tryz.zeroCells233 233)) := (Below.refl _ _).alloc (Nat.le_refl _) _
  go_enter Tryz.func283, Tryz.ntmps283
  go_wp2_with (go_at_call 292; (with_reducible refine Calls.mono (KP.out _) ?_); rintro r w1 ⟨rfl, rfl⟩)
  go_loopg [13, 1] n (fun g s13 s1 wr => ∃ (m u : Nat) (T : List UInt8), s13 = .int .i64 m ∧ s1 = .int .u64 u ∧ m + T.length = 65 ∧ T.length ≤ 40 ∧ u ≤ 999999999999 ∧ Aside (u * 2 ^ T.length ≤ 999999999999) ∧ Below w.heap.size w wr ∧ Aside (Buf w.heap.size T wr) ∧ Aside (digs false b u ++ T = digs false b n) ∧ Aside (g = u))
  case atStart => exact ⟨65, n, [], rfl, rfl, rfl, by simp, hn, by show _ ≤ _; simpa using hn, hBI, hI.out, by show _ = _; simp, rfl⟩
  case round =>
    clear hI hBI
    obtain ⟨m, u, T, rfl, rfl, hmT, hT40, hu, hp, hB, hbuf, hd, hg⟩ := hrel
    have hp' := hp.out
    have hbuf' := hbuf.out
    have hd' := hd.out
    have hg' := hg.out
    clear hbuf hd hg hp
    obtain ⟨k, rfl⟩ : ∃ k, m = k + 1 := ⟨m - 1, by omega⟩
    obtain ⟨ov, hov⟩ := hbuf'.old k (by omega)
    have hfz := hbuf'.fz k
    have hglt := hbuf'.lt
    by_cases hlt : b ≤ u
    · have hu1 : 1 ≤ u := by omega
      have j1 : (b : Int) ≤ u := by omega
      have j2 : ¬ (u : Int) < b := by omega
      have hr := Nat.mod_lt u (show 0 < b by omega)
      have hq := div_lt_of h2 hlt
      have hda := Nat.div_add_mod u b
      have hN : digs false b u = digs false b (u / b) ++ [dch false (u % b)] := digs_ge h2 hlt
      have hroom := half_room h2 hp'
      have hlen := pow_room hu1 hp'
      have hdiv : (u : Int) / b = ((u / b : Nat) : Int) := rfl
      rw [hN, List.append_assoc] at hd'
      have hpush := hbuf'.push (m := k) (by omega) (dch false (u % b))
      have hr16 : u % b < 16 := by omega
      generalize hDd : dch false (u % b) = D at *
      generalize u / b = q at *
      generalize u % b = r at *
      have hld := (lit_dch hr16).trans hDd
      have hqb : ((b * q : Nat) : Int) = (q : Int) * b := by rw [Nat.mul_comm]; push_cast; rfl
      have hqb2 : b * q ≤ u := by omega
      have e1 : IntKind.u64.wrap (q : Int) = q := u64_in (by omega) (by omega)
      have e2 : IntKind.u64.wrap ((q : Int) * b) = (q : Int) * b := u64_in (by omega) (by omega)
      have e3 : IntKind.u64.wrap ((u : Int) - (q : Int) * b) = r := by rw [← hqb]; exact (u64_in (by omega) (by omega)).trans (by omega)
      have e4 : (r : Int) < 36 := by omega
      clear hDd
      have HD := Lib.hid hd'; have HN := Lib.hid hpush; have HR := Lib.hid hroom; have HL := Lib.hid hld
      clear hd' hpush hroom hld hbuf' hN hp' hda hqb hqb2
      go_wp2
      have hw := HL.out
      go_roundg q
      case measure => omega
      case rel =>
        refine ⟨k, q, D :: T, rfl, rfl, by simp; omega, by simp; omega, by omega, HR.out, ?_, ?_, HD.out, rfl⟩
        · exact hB.setCell (by simp) _
        · show Buf _ _ _
          rw [hw]
          exact HN.out
    · have j1 : ¬ (b : Int) ≤ u := by omega
      have j2 : (u : Int) < b := by omega
      have j3 : (u : Int) < 36 := by omega
      rw [digs_lt (by omega)] at hd'
      have hpush := hbuf'.push (m := k) (by omega) (dch false u)
      have hld := lit_dch (show u < 16 by omega)
      have hsl := fun W => slice65 w.heap.size k W (by omega)
      have hL : ([dch false u] ++ T).length = 65 - k := by simp; omega
      rw [List.singleton_append] at hd' hL
      have hcells := hpush.cells (k := k) (by simp; omega)
      rw [hd'] at hcells hL
      have hback := run_convert_bytes_back (P := Tryz.prog) (wr.setCell ⟨w.heap.size, k, none⟩ (.int .u8 ((dch false u).toNat : Int))) 22 9 5 ⟨w.heap.size, k, none⟩ (65 - k) (digs false b n) Tryz.underlying22 Tryz.underlying5 Tryz.underlying9 hcells
      rw [hL] at hback
      rw [← hld] at hback
      clear hcells hpush hd' hp' hbuf' hld
      go_wp2
      go_ret2
      exact ⟨rfl, hB.setCell (by simp) _⟩
end Go.Proofs.YtebheehjhnaklaaGreatDoor
namespace Go.Proofs.YtebheehjhnaklaaGreatDoor
open Go.RowKit
/-- what is read of math/bits.deBruijn64tab -/
structure TzTab (w : World) : Prop where
  c1 : w.cell? ⟨8, 1, none⟩ = some (.int .u8 1)
  c2 : w.cell? ⟨8, 3, none⟩ = some (.int .u8 2)
  c3 : w.cell? ⟨8, 7, none⟩ = some (.int .u8 3)
  c4 : w.cell? ⟨8, 15, none⟩ = some (.int .u8 4)
  lt : 8 < w.heap.size
theorem TzTab.on {w w1 : World} (h : TzTab w) (hb : Below w.heap.size w w1) : TzTab w1 :=
  ⟨(hb.cell (p := ⟨8, 1, none⟩) h.lt).trans h.c1, (hb.cell (p := ⟨8, 3, none⟩) h.lt).trans h.c2, (hb.cell (p := ⟨8, 7, none⟩) h.lt).trans h.c3, (hb.cell (p := ⟨8, 15, none⟩) h.lt).trans h.c4, Nat.lt_of_lt_of_le h.lt hb.size⟩
theorem TzTab.up {w : World} (h : TzTab w) (o : Obj) : TzTab (w.alloc o) := h.on ((Below.refl _ _).alloc (Nat.le_refl _) _)
theorem and_mod (u k : Nat) (hu : u < 18446744073709551616) (hk : k < 64) : bits .and .u64 (u : Int) ((2 ^ k - 1 : Nat) : Int) = ((u % 2 ^ k : Nat) : Int) := by
  have hp : 2 ^ k ≤ 2 ^ 63 := Nat.pow_le_pow_right (by omega) (by omega)
  have h1 : (BitVec.ofInt 64 (u : Int)).toNat = u := by
    rw [BitVec.ofInt_natCast, BitVec.toNat_ofNat]; exact Nat.mod_eq_of_lt (by omega)
  have h2 : (BitVec.ofInt 64 ((2 ^ k - 1 : Nat) : Int)).toNat = 2 ^ k - 1 := by
    rw [BitVec.ofInt_natCast, BitVec.toNat_ofNat]; exact Nat.mod_eq_of_lt (by omega)
  have e : bits .and .u64 (u : Int) ((2 ^ k - 1 : Nat) : Int) = IntKind.u64.wrap ((u % 2 ^ k : Nat) : Int) := by
    show IntKind.u64.wrap ((BitVec.ofInt 64 (u : Int) &&& BitVec.ofInt 64 ((2 ^ k - 1 : Nat) : Int)).toNat : Int) = _
    rw [BitVec.toNat_and, h1, h2, Nat.and_two_pow_sub_one_eq_mod]
  have hm : u % 2 ^ k ≤ u := Nat.mod_le _ _
  rw [e, u64_in (by omega) (by omega)]
set_option maxRecDepth 100000 in
theorem tz_2 (w : World) (h : TzTab w) :
    Calls Tryz.prog 293 #[.int .u64 2] w fun r w' => r = .returned (.int .i64 1) ∧ w = w' := by
  have c := h.c1
  have e : IntKind.u64.wrap (bits .and .u64 2 (IntKind.u64.wrap (-2)) * 285870213051353865) / 288230376151711744 = 1 := by decide +kernel
  go_enter Tryz.func293, Tryz.ntmps293
  go_wp2
  go_ret
  exact ⟨rfl, rfl⟩
set_option maxRecDepth 100000 in
theorem tz_4 (w : World) (h : TzTab w) :
    Calls Tryz.prog 293 #[.int .u64 4] w fun r w' => r = .returned (.int .i64 2) ∧ w = w' := by
  have c := h.c2
  have e : IntKind.u64.wrap (bits .and .u64 4 (IntKind.u64.wrap (-4)) * 285870213051353865) / 288230376151711744 = 3 := by decide +kernel
  go_enter Tryz.func293, Tryz.ntmps293
  go_wp2
  go_ret
  exact ⟨rfl, rfl⟩
set_option maxRecDepth 100000 in
theorem tz_8 (w : World) (h : TzTab w) :
    Calls Tryz.prog 293 #[.int .u64 8] w fun r w' => r = .returned (.int .i64 3) ∧ w = w' := by
  have c := h.c3
  have e : IntKind.u64.wrap (bits .and .u64 8 (IntKind.u64.wrap (-8)) * 285870213051353865) / 288230376151711744 = 7 := by decide +kernel
  go_enter Tryz.func293, Tryz.ntmps293
  go_wp2
  go_ret
  exact ⟨rfl, rfl⟩
set_option maxRecDepth 100000 in
theorem tz_16 (w : World) (h : TzTab w) :
    Calls Tryz.prog 293 #[.int .u64 16] w fun r w' => r = .returned (.int .i64 4) ∧ w = w' := by
  have c := h.c4
  have e : IntKind.u64.wrap (bits .and .u64 16 (IntKind.u64.wrap (-16)) * 285870213051353865) / 288230376151711744 = 15 := by decide +kernel
  go_enter Tryz.func293, Tryz.ntmps293
  go_wp2
  go_ret
  exact ⟨rfl, rfl⟩
set_option maxRecDepth 100000 in
set_option maxHeartbeats 4000000 in
theorem formatBits_2 (n : Nat) (hn : n ≤ 999999999999) (w : World) (hT : TzTab w) :
    Calls Tryz.prog 283 #[.slice none 0 0, .int .u64 n, .int .i64 2, .bool false, .bool false] w fun r w' => r = .returned (.tuple #[.slice none 0 0, .string ⟨(digs false 2 n).toArray⟩]) ∧ Below w.heap.size w w' := by
  have kp := fun W => isPow_yes 2 (by omega) W
  have KP := Lib.hid kp
  clear kp
  have hT1 := Lib.hid (hT.up (.cells Tryz.zeroCells233 233))
  have hI := Lib.hid (Buf.init w 233)
  have hBI : Below w.heap.size w (w.alloc (.cells Tryz.zeroCells233 233)) := (Below.refl _ _).alloc (Nat.le_refl _) _
  go_enter Tryz.func283, Tryz.ntmps283
  go_wp2_with (first | (go_at_call 292; (with_reducible refine Calls.mono (KP.out _) ?_); rintro r w1 ⟨rfl, rfl⟩) | (go_at_call 293; (with_reducible refine Calls.mono (tz_2 _ hT1.out) ?_); rintro r w1 ⟨rfl, rfl⟩))
  go_loopg [13, 1] n (fun g s13 s1 wr => ∃ (m u : Nat) (T : List UInt8), s13 = .int .i64 m ∧ s1 = .int .u64 u ∧ m + T.length = 65 ∧ T.length ≤ 40 ∧ u ≤ 999999999999 ∧ Aside (u * 2 ^ T.length ≤ 999999999999) ∧ Below w.heap.size w wr ∧ Aside (Buf w.heap.size T wr) ∧ Aside (digs false 2 u ++ T = digs false 2 n) ∧ Aside (g = u))
  case atStart => exact ⟨65, n, [], rfl, rfl, rfl, by simp, hn, by show _ ≤ _; simpa using hn, hBI, hI.out, by show _ = _; simp, rfl⟩
  case round =>
    clear hI hBI
    obtain ⟨m, u, T, rfl, rfl, hmT, hT40, hu, hp, hB, hbuf, hd, hg⟩ := hrel
    have hp' := hp.out
    have hbuf' := hbuf.out
    have hd' := hd.out
    have hg' := hg.out
    clear hbuf hd hg hp
    obtain ⟨k, rfl⟩ : ∃ k, m = k + 1 := ⟨m - 1, by omega⟩
    obtain ⟨ov, hov⟩ := hbuf'.old k (by omega)
    have hfz := hbuf'.fz k
    have hglt := hbuf'.lt
    by_cases hlt : 2 ≤ u
    · have hu1 : 1 ≤ u := by omega
      have j1 : (2 : Int) ≤ u := by omega
      have j2 : ¬ (u : Int) < 2 := by omega
      have hq := div_lt_of (b := 2) (by omega) hlt
      have hN : digs false 2 u = digs false 2 (u / 2) ++ [dch false (u % 2)] := digs_ge (by omega) hlt
      have hroom := half_room (b := 2) (by omega) hp'
      have hlen := pow_room hu1 hp'
      rw [hN, List.append_assoc] at hd'
      have hpush := hbuf'.push (m := k) (by omega) (dch false (u % 2))
      have hr16 : u % 2 < 16 := by omega
      have hr36 : ((u % 2 : Nat) : Int) < 36 := by omega
      have ha : bits .and .u64 (u : Int) 1 = ((u % 2 : Nat) : Int) := and_mod u 1 (by omega) (by omega)
      generalize hDd : dch false (u % 2) = D at *
      have hdiv : (u : Int) / 2 = ((u / 2 : Nat) : Int) := by omega
      generalize u / 2 = q at *
      generalize u % 2 = r at *
      have hld := (lit_dch hr16).trans hDd
      have e1 : IntKind.u64.wrap (q : Int) = q := u64_in (by omega) (by omega)
      clear hDd
      have HD := Lib.hid hd'; have HN := Lib.hid hpush; have HR := Lib.hid hroom; have HL := Lib.hid hld
      clear hd' hpush hroom hld hbuf' hN hp'
      go_wp2
      have hw := HL.out
      go_roundg q
      case measure => omega
      case rel =>
        refine ⟨k, q, D :: T, rfl, rfl, by simp; omega, by simp; omega, by omega, HR.out, ?_, ?_, HD.out, rfl⟩
        · exact hB.setCell (by simp) _
        · show Buf _ _ _
          rw [hw]
          exact HN.out
    · have j1 : ¬ (2 : Int) ≤ u := by omega
      have j2 : (u : Int) < 2 := by omega
      have j3 : (u : Int) < 36 := by omega
      rw [digs_lt (by omega)] at hd'
      have hpush := hbuf'.push (m := k) (by omega) (dch false u)
      have hld := lit_dch (show u < 16 by omega)
      have hsl := fun W => slice65 w.heap.size k W (by omega)
      have hL : ([dch false u] ++ T).length = 65 - k := by simp; omega
      rw [List.singleton_append] at hd' hL
      have hcells := hpush.cells (k := k) (by simp; omega)
      rw [hd'] at hcells hL
      have hback := run_convert_bytes_back (P := Tryz.prog) (wr.setCell ⟨w.heap.size, k, none⟩ (.int .u8 ((dch false u).toNat : Int))) 22 9 5 ⟨w.heap.size, k, none⟩ (65 - k) (digs false 2 n) Tryz.underlying22 Tryz.underlying5 Tryz.underlying9 hcells
      rw [hL] at hback
      rw [← hld] at hback
      clear hcells hpush hd' hp' hbuf' hld
      go_wp2
      go_ret2
      exact ⟨rfl, hB.setCell (by simp) _⟩
set_option maxRecDepth 100000 in
set_option maxHeartbeats 4000000 in
theorem formatBits_4 (n : Nat) (hn : n ≤ 999999999999) (w : World) (hT : TzTab w) :
    Calls Tryz.prog 283 #[.slice none 0 0, .int .u64 n, .int .i64 4, .bool false, .bool false] w fun r w' => r = .returned (.tuple #[.slice none 0 0, .string ⟨(digs false 4 n).toArray⟩]) ∧ Below w.heap.size w w' := by
  have kp := fun W => isPow_yes 4 (by omega) W
  have KP := Lib.hid kp
  clear kp
  have hT1 := Lib.hid (hT.up (.cells Tryz.zeroCells233 233))
  have hI := Lib.hid (Buf.init w 233)
  have hBI : Below w.heap.size w (w.alloc (.cells Tryz.zeroCells233 233)) := (Below.refl _ _).alloc (Nat.le_refl _) _
  go_enter Tryz.func283, Tryz.ntmps283
  go_wp2_with (first | (go_at_call 292; (with_reducible refine Calls.mono (KP.out _) ?_); rintro r w1 ⟨rfl, rfl⟩) | (go_at_call 293; (with_reducible refine Calls.mono (tz_4 _ hT1.out) ?_); rintro r w1 ⟨rfl, rfl⟩))
  go_loopg [13, 1] n (fun g s13 s1 wr => ∃ (m u : Nat) (T : List UInt8), s13 = .int .i64 m ∧ s1 = .int .u64 u ∧ m + T.length = 65 ∧ T.length ≤ 40 ∧ u ≤ 999999999999 ∧ Aside (u * 2 ^ T.length ≤ 999999999999) ∧ Below w.heap.size w wr ∧ Aside (Buf w.heap.size T wr) ∧ Aside (digs false 4 u ++ T = digs false 4 n) ∧ Aside (g = u))
  case atStart => exact ⟨65, n, [], rfl, rfl, rfl, by simp, hn, by show _ ≤ _; simpa using hn, hBI, hI.out, by show _ = _; simp, rfl⟩
  case round =>
    clear hI hBI
    obtain ⟨m, u, T, rfl, rfl, hmT, hT40, hu, hp, hB, hbuf, hd, hg⟩ := hrel
    have hp' := hp.out
    have hbuf' := hbuf.out
    have hd' := hd.out
    have hg' := hg.out
    clear hbuf hd hg hp
    obtain ⟨k, rfl⟩ : ∃ k, m = k + 1 := ⟨m - 1, by omega⟩
    obtain ⟨ov, hov⟩ := hbuf'.old k (by omega)
    have hfz := hbuf'.fz k
    have hglt := hbuf'.lt
    by_cases hlt : 4 ≤ u
    · have hu1 : 1 ≤ u := by omega
      have j1 : (4 : Int) ≤ u := by omega
      have j2 : ¬ (u : Int) < 4 := by omega
      have hq := div_lt_of (b := 4) (by omega) hlt
      have hN : digs false 4 u = digs false 4 (u / 4) ++ [dch false (u % 4)] := digs_ge (by omega) hlt
      have hroom := half_room (b := 4) (by omega) hp'
      have hlen := pow_room hu1 hp'
      rw [hN, List.append_assoc] at hd'
      have hpush := hbuf'.push (m := k) (by omega) (dch false (u % 4))
      have hr16 : u % 4 < 16 := by omega
      have hr36 : ((u % 4 : Nat) : Int) < 36 := by omega
      have ha : bits .and .u64 (u : Int) 3 = ((u % 4 : Nat) : Int) := and_mod u 2 (by omega) (by omega)
      generalize hDd : dch false (u % 4) = D at *
      have hdiv : (u : Int) / 4 = ((u / 4 : Nat) : Int) := by omega
      generalize u / 4 = q at *
      generalize u % 4 = r at *
      have hld := (lit_dch hr16).trans hDd
      have e1 : IntKind.u64.wrap (q : Int) = q := u64_in (by omega) (by omega)
      clear hDd
      have HD := Lib.hid hd'; have HN := Lib.hid hpush; have HR := Lib.hid hroom; have HL := Lib.hid hld
      clear hd' hpush hroom hld hbuf' hN hp'
      go_wp2
      have hw := HL.out
      go_roundg q
      case measure => omega
      case rel =>
        refine ⟨k, q, D :: T, rfl, rfl, by simp; omega, by simp; omega, by omega, HR.out, ?_, ?_, HD.out, rfl⟩
        · exact hB.setCell (by simp) _
        · show Buf _ _ _
          rw [hw]
          exact HN.out
    · have j1 : ¬ (4 : Int) ≤ u := by omega
      have j2 : (u : Int) < 4 := by omega
      have j3 : (u : Int) < 36 := by omega
      rw [digs_lt (by omega)] at hd'
      have hpush := hbuf'.push (m := k) (by omega) (dch false u)
      have hld := lit_dch (show u < 16 by omega)
      have hsl := fun W => slice65 w.heap.size k W (by omega)
      have hL : ([dch false u] ++ T).length = 65 - k := by simp; omega
      rw [List.singleton_append] at hd' hL
      have hcells := hpush.cells (k := k) (by simp; omega)
      rw [hd'] at hcells hL
      have hback := run_convert_bytes_back (P := Tryz.prog) (wr.setCell ⟨w.heap.size, k, none⟩ (.int .u8 ((dch false u).toNat : Int))) 22 9 5 ⟨w.heap.size, k, none⟩ (65 - k) (digs false 4 n) Tryz.underlying22 Tryz.underlying5 Tryz.underlying9 hcells
      rw [hL] at hback
      rw [← hld] at hback
      clear hcells hpush hd' hp' hbuf' hld
      go_wp2
      go_ret2
      exact ⟨rfl, hB.setCell (by simp) _⟩
set_option maxRecDepth 100000 in
set_option maxHeartbeats 4000000 in
theorem formatBits_8 (n : Nat) (hn : n ≤ 999999999999) (w : World) (hT : TzTab w) :
    Calls Tryz.prog 283 #[.slice none 0 0, .int .u64 n, .int .i64 8, .bool false, .bool false] w fun r w' => r = .returned (.tuple #[.slice none 0 0, .string ⟨(digs false 8 n).toArray⟩]) ∧ Below w.heap.size w w' := by
  have kp := fun W => isPow_yes 8 (by omega) W
  have KP := Lib.hid kp
  clear kp
  have hT1 := Lib.hid (hT.up (.cells Tryz.zeroCells233 233))
  have hI := Lib.hid (Buf.init w 233)
  have hBI : Below w.heap.size w (w.alloc (.cells Tryz.zeroCells233 233)) := (Below.refl _ _).alloc (Nat.le_refl _) _
  go_enter Tryz.func283, Tryz.ntmps283
  go_wp2_with (first | (go_at_call 292; (with_reducible refine Calls.mono (KP.out _) ?_); rintro r w1 ⟨rfl, rfl⟩) | (go_at_call 293; (with_reducible refine Calls.mono (tz_8 _ hT1.out) ?_); rintro r w1 ⟨rfl, rfl⟩))
  go_loopg [13, 1] n (fun g s13 s1 wr => ∃ (m u : Nat) (T : List UInt8), s13 = .int .i64 m ∧ s1 = .int .u64 u ∧ m + T.length = 65 ∧ T.length ≤ 40 ∧ u ≤ 999999999999 ∧ Aside (u * 2 ^ T.length ≤ 999999999999) ∧ Below w.heap.size w wr ∧ Aside (Buf w.heap.size T wr) ∧ Aside (digs false 8 u ++ T = digs false 8 n) ∧ Aside (g = u))
  case atStart => exact ⟨65, n, [], rfl, rfl, rfl, by simp, hn, by show _ ≤ _; simpa using hn, hBI, hI.out, by show _ = _; simp, rfl⟩
  case round =>
    clear hI hBI
    obtain ⟨m, u, T, rfl, rfl, hmT, hT40, hu, hp, hB, hbuf, hd, hg⟩ := hrel
    have hp' := hp.out
    have hbuf' := hbuf.out
    have hd' := hd.out
    have hg' := hg.out
    clear hbuf hd hg hp
    obtain ⟨k, rfl⟩ : ∃ k, m = k + 1 := ⟨m - 1, by omega⟩
    obtain ⟨ov, hov⟩ := hbuf'.old k (by omega)
    have hfz := hbuf'.fz k
    have hglt := hbuf'.lt
    by_cases hlt : 8 ≤ u
    · have hu1 : 1 ≤ u := by omega
      have j1 : (8 : Int) ≤ u := by omega
      have j2 : ¬ (u : Int) < 8 := by omega
      have hq := div_lt_of (b := 8) (by omega) hlt
      have hN : digs false 8 u = digs false 8 (u / 8) ++ [dch false (u % 8)] := digs_ge (by omega) hlt
      have hroom := half_room (b := 8) (by omega) hp'
      have hlen := pow_room hu1 hp'
      rw [hN, List.append_assoc] at hd'
      have hpush := hbuf'.push (m := k) (by omega) (dch false (u % 8))
      have hr16 : u % 8 < 16 := by omega
      have hr36 : ((u % 8 : Nat) : Int) < 36 := by omega
      have ha : bits .and .u64 (u : Int) 7 = ((u % 8 : Nat) : Int) := and_mod u 3 (by omega) (by omega)
      generalize hDd : dch false (u % 8) = D at *
      have hdiv : (u : Int) / 8 = ((u / 8 : Nat) : Int) := by omega
      generalize u / 8 = q at *
      generalize u % 8 = r at *
      have hld := (lit_dch hr16).trans hDd
      have e1 : IntKind.u64.wrap (q : Int) = q := u64_in (by omega) (by omega)
      clear hDd
      have HD := Lib.hid hd'; have HN := Lib.hid hpush; have HR := Lib.hid hroom; have HL := Lib.hid hld
      clear hd' hpush hroom hld hbuf' hN hp'
      go_wp2
      have hw := HL.out
      go_roundg q
      case measure => omega
      case rel =>
        refine ⟨k, q, D :: T, rfl, rfl, by simp; omega, by simp; omega, by omega, HR.out, ?_, ?_, HD.out, rfl⟩
        · exact hB.setCell (by simp) _
        · show Buf _ _ _
          rw [hw]
          exact HN.out
    · have j1 : ¬ (8 : Int) ≤ u := by omega
      have j2 : (u : Int) < 8 := by omega
      have j3 : (u : Int) < 36 := by omega
      rw [digs_lt (by omega)] at hd'
      have hpush := hbuf'.push (m := k) (by omega) (dch false u)
      have hld := lit_dch (show u < 16 by omega)
      have hsl := fun W => slice65 w.heap.size k W (by omega)
      have hL : ([dch false u] ++ T).length = 65 - k := by simp; omega
      rw [List.singleton_append] at hd' hL
      have hcells := hpush.cells (k := k) (by simp; omega)
      rw [hd'] at hcells hL
      have hback := run_convert_bytes_back (P := Tryz.prog) (wr.setCell ⟨w.heap.size, k, none⟩ (.int .u8 ((dch false u).toNat : Int))) 22 9 5 ⟨w.heap.size, k, none⟩ (65 - k) (digs false 8 n) Tryz.underlying22 Tryz.underlying5 Tryz.underlying9 hcells
      rw [hL] at hback
      rw [← hld] at hback
      clear hcells hpush hd' hp' hbuf' hld
      go_wp2
      go_ret2
      exact ⟨rfl, hB.setCell (by simp) _⟩
set_option maxRecDepth 100000 in
set_option maxHeartbeats 4000000 in
theorem formatBits_16 (n : Nat) (hn : n ≤ 999999999999) (w : World) (hT : TzTab w) :
    Calls Tryz.prog 283 #[.slice none 0 0, .int .u64 n, .int .i64 16, .bool false, .bool false] w fun r w' => r = .returned (.tuple #[.slice none 0 0, .string ⟨(digs false 16 n).toArray⟩]) ∧ Below w.heap.size w w' := by
  have kp := fun W => isPow_yes 16 (by omega) W
  have KP := Lib.hid kp
  clear kp
  have hT1 := Lib.hid (hT.up (.cells Tryz.zeroCells233 233))
  have hI := Lib.hid (Buf.init w 233)
  have hBI : Below w.heap.size w (w.alloc (.cells Tryz.zeroCells233 233)) := (Below.refl _ _).alloc (Nat.le_refl _) _
  go_enter Tryz.func283, Tryz.ntmps283
  go_wp2_with (first | (go_at_call 292; (with_reducible refine Calls.mono (KP.out _) ?_); rintro r w1 ⟨rfl, rfl⟩) | (go_at_call 293; (with_reducible refine Calls.mono (tz_16 _ hT1.out) ?_); rintro r w1 ⟨rfl, rfl⟩))
  go_loopg [13, 1] n (fun g s13 s1 wr => ∃ (m u : Nat) (T : List UInt8), s13 = .int .i64 m ∧ s1 = .int .u64 u ∧ m + T.length = 65 ∧ T.length ≤ 40 ∧ u ≤ 999999999999 ∧ Aside (u * 2 ^ T.length ≤ 999999999999) ∧ Below w.heap.size w wr ∧ Aside (Buf w.heap.size T wr) ∧ Aside (digs false 16 u ++ T = digs false 16 n) ∧ Aside (g = u))
  case atStart => exact ⟨65, n, [], rfl, rfl, rfl, by simp, hn, by show _ ≤ _; simpa using hn, hBI, hI.out, by show _ = _; simp, rfl⟩
  case round =>
    clear hI hBI
    obtain ⟨m, u, T, rfl, rfl, hmT, hT40, hu, hp, hB, hbuf, hd, hg⟩ := hrel
    have hp' := hp.out
    have hbuf' := hbuf.out
    have hd' := hd.out
    have hg' := hg.out
    clear hbuf hd hg hp
    obtain ⟨k, rfl⟩ : ∃ k, m = k + 1 := ⟨m - 1, by omega⟩
    obtain ⟨ov, hov⟩ := hbuf'.old k (by omega)
    have hfz := hbuf'.fz k
    have hglt := hbuf'.lt
    by_cases hlt : 16 ≤ u
    · have hu1 : 1 ≤ u := by omega
      have j1 : (16 : Int) ≤ u := by omega
      have j2 : ¬ (u : Int) < 16 := by omega
      have hq := div_lt_of (b := 16) (by omega) hlt
      have hN : digs false 16 u = digs false 16 (u / 16) ++ [dch false (u % 16)] := digs_ge (by omega) hlt
      have hroom := half_room (b := 16) (by omega) hp'
      have hlen := pow_room hu1 hp'
      rw [hN, List.append_assoc] at hd'
      have hpush := hbuf'.push (m := k) (by omega) (dch false (u % 16))
      have hr16 : u % 16 < 16 := by omega
      have hr36 : ((u % 16 : Nat) : Int) < 36 := by omega
      have ha : bits .and .u64 (u : Int) 15 = ((u % 16 : Nat) : Int) := and_mod u 4 (by omega) (by omega)
      generalize hDd : dch false (u % 16) = D at *
      have hdiv : (u : Int) / 16 = ((u / 16 : Nat) : Int) := by omega
      generalize u / 16 = q at *
      generalize u % 16 = r at *
      have hld := (lit_dch hr16).trans hDd
      have e1 : IntKind.u64.wrap (q : Int) = q := u64_in (by omega) (by omega)
      clear hDd
      have HD := Lib.hid hd'; have HN := Lib.hid hpush; have HR := Lib.hid hroom; have HL := Lib.hid hld
      clear hd' hpush hroom hld hbuf' hN hp'
      go_wp2
      have hw := HL.out
      go_roundg q
      case measure => omega
      case rel =>
        refine ⟨k, q, D :: T, rfl, rfl, by simp; omega, by simp; omega, by omega, HR.out, ?_, ?_, HD.out, rfl⟩
        · exact hB.setCell (by simp) _
        · show Buf _ _ _
          rw [hw]
          exact HN.out
    · have j1 : ¬ (16 : Int) ≤ u := by omega
      have j2 : (u : Int) < 16 := by omega
      have j3 : (u : Int) < 36 := by omega
      rw [digs_lt (by omega)] at hd'
      have hpush := hbuf'.push (m := k) (by omega) (dch false u)
      have hld := lit_dch (show u < 16 by omega)
      have hsl := fun W => slice65 w.heap.size k W (by omega)
      have hL : ([dch false u] ++ T).length = 65 - k := by simp; omega
      rw [List.singleton_append] at hd' hL
      have hcells := hpush.cells (k := k) (by simp; omega)
      rw [hd'] at hcells hL
      have hback := run_convert_bytes_back (P := Tryz.prog) (wr.setCell ⟨w.heap.size, k, none⟩ (.int .u8 ((dch false u).toNat : Int))) 22 9 5 ⟨w.heap.size, k, none⟩ (65 - k) (digs false 16 n) Tryz.underlying22 Tryz.underlying5 Tryz.underlying9 hcells
      rw [hL] at hback
      rw [← hld] at hback
      clear hcells hpush hd' hp' hbuf' hld
      go_wp2
      go_ret2
      exact ⟨rfl, hB.setCell (by simp) _⟩
end Go.Proofs.YtebheehjhnaklaaGreatDoor
namespace Go.Proofs.YtebheehjhnaklaaGreatDoor
open Go.RowKit
/-- the tables that numbers are written by -/
structure DT (w : World) : Prop where
  tz : TzTab w
  p10 : Lib.TabIs Tryz.prog w "internal/strconv.uint64pow10" .u64 Lib.pow10Tab
theorem DT.on {w w1 : World} (h : DT w) (hb : Below w.heap.size w w1) : DT w1 := ⟨h.tz.on hb, Lib.tabBelow_of_tabIs h.p10 w1 hb⟩
theorem DT.of {W w w1 : World} (h : DT W) (hw : Below W.heap.size W w) (hb : Below w.heap.size w w1) : DT w1 := (h.on hw).on hb
def digW (n base : Int) : ByteArray := if 0 ≤ n ∧ n ≤ 999999999999 ∧ 2 ≤ base ∧ base ≤ 16 then ⟨(digs false base.toNat n.toNat).toArray⟩ else ⟨#[]⟩
theorem digW_yes {n b : Nat} (h1 : n ≤ 999999999999) (h2 : 2 ≤ b) (h3 : b ≤ 16) : digW n b = ⟨(digs false b n).toArray⟩ := by unfold digW; rw [if_pos (by omega)]; rfl
theorem digW_no {n base : Int} (h : ¬ (0 ≤ n ∧ n ≤ 999999999999 ∧ 2 ≤ base ∧ base ≤ 16)) : digW n base = ⟨#[]⟩ := if_neg h
set_option maxRecDepth 100000 in
set_option maxHeartbeats 2000000 in
theorem formatBits_any (b n : Nat) (h2 : 2 ≤ b) (h16 : b ≤ 16) (h10 : b ≠ 10) (hn : n ≤ 999999999999) (w : World) (hT : TzTab w) :
    Calls Tryz.prog 283 #[.slice none 0 0, .int .u64 n, .int .i64 b, .bool false, .bool false] w fun r w' => r = .returned (.tuple #[.slice none 0 0, .string ⟨(digs false b n).toArray⟩]) ∧ Below w.heap.size w w' := by
  by_cases h : b = 3 ∨ b = 5 ∨ b = 6 ∨ b = 7 ∨ b = 9 ∨ b = 11 ∨ b = 12 ∨ b = 13 ∨ b = 14 ∨ b = 15
  · exact formatBits_odd b n h hn w
  · have hb : b = 2 ∨ b = 4 ∨ b = 8 ∨ b = 16 := by omega
    rcases hb with rfl | rfl | rfl | rfl
    · exact formatBits_2 n hn w hT
    · exact formatBits_4 n hn w hT
    · exact formatBits_8 n hn w hT
    · exact formatBits_16 n hn w hT
set_option maxRecDepth 100000 in
set_option maxHeartbeats 2000000 in
theorem FormatInt_any (b n : Nat) (h2 : 2 ≤ b) (h16 : b ≤ 16) (hn : n ≤ 999999999999) (w : World) (hT : DT w) :
    Calls Tryz.prog 224 #[.int .i64 n, .int .i64 b] w fun r w' => r = .returned (.string ⟨(digs false b n).toArray⟩) ∧ Below w.heap.size w w' := by
  by_cases h10 : b = 10
  · subst h10
    have h := Tryz.strconv_FormatInt_10 (n : Int) (by omega) (by omega) w hT.p10
    have e : Lib.itoa (n : Int) = digs false 10 n := by
      unfold Lib.itoa
      rw [if_neg (by omega)]
      exact decDigits_digs n n (Nat.le_refl _)
    rw [e] at h
    exact h.mono (by rintro r w1 ⟨rfl, k, os, rfl⟩; exact ⟨rfl, Lib.below_grow _ _ (Nat.le_refl _) _ _⟩)
  · have k1 := formatBits_any b n h2 h16 h10 hn w hT.tz
    have i1 : ((b : Int) == 10) = false := by simp; omega
    have i2 : ¬ (b : Int) = 10 := by omega
    have i3 : ¬ b = 10 := h10
    have i4 : ¬ (n : Int) < 0 := by omega
    have i5 : IntKind.u64.wrap (n : Int) = n := u64_in (by omega) (by omega)
    have K1 := Lib.hid k1
    clear k1
    have k2 : Calls Tryz.prog 260 #[.int .i64 n, .int .i64 b] w fun r w' => r = .returned (.string ⟨(digs false b n).toArray⟩) ∧ Below w.heap.size w w' := by
      go_enter Tryz.func260, Tryz.ntmps260
      go_wp2_with (go_at_call 283; (with_reducible refine Calls.mono K1.out ?_); rintro r w1 ⟨rfl, hb⟩)
      go_ret
      exact ⟨rfl, hb⟩
    have K2 := Lib.hid k2
    clear k2
    go_enter Tryz.func224, Tryz.ntmps224
    go_wp2_with (go_at_call 260; (with_reducible refine Calls.mono K2.out ?_); rintro r w1 ⟨rfl, hb⟩)
    go_ret
    exact ⟨rfl, hb⟩
set_option maxRecDepth 100000 in
set_option maxHeartbeats 2000000 in
theorem DigitsIn_any (n base : Int) (w : World) (hT : DT w) :
    Calls Tryz.prog 165 #[.int .i64 n, .int .i64 base] w fun r w' => r = .returned (.string (digW n base)) ∧ Below w.heap.size w w' := by
  have k1 := fun W => within_any n 0 999999999999 W
  have k2 := fun W => within_any base 2 16 W
  by_cases h1 : 0 ≤ n ∧ n ≤ 999999999999
  · rw [show inr n 0 999999999999 = true by simp [inr]; omega] at k1
    by_cases h2 : 2 ≤ base ∧ base ≤ 16
    · rw [show inr base 2 16 = true by simp [inr]; omega] at k2
      obtain ⟨n, rfl⟩ := Int.eq_ofNat_of_zero_le h1.1
      obtain ⟨b, rfl⟩ := Int.eq_ofNat_of_zero_le (show 0 ≤ base by omega)
      rw [digW_yes (by omega) (by omega) (by omega)]
      have k3 := FormatInt_any b n (by omega) (by omega) (by omega) w hT
      have K1 := Lib.hid k1; have K2 := Lib.hid k2; have K3 := Lib.hid k3
      clear k1 k2 k3 hT
      go_enter Tryz.func165, Tryz.ntmps165
      go_wp2_with (first | (go_at_call 44; (with_reducible refine Calls.mono (K1.out _) ?_); rintro r w1 ⟨rfl, rfl⟩) | (go_at_call 44; (with_reducible refine Calls.mono (K2.out _) ?_); rintro r w1 ⟨rfl, rfl⟩) | (go_at_call 224; (with_reducible refine Calls.mono K3.out ?_); rintro r w1 ⟨rfl, hb⟩))
      go_ret
      exact ⟨rfl, hb⟩
    · rw [show inr base 2 16 = false by simp [inr]; omega] at k2
      rw [digW_no (by omega)]
      have K1 := Lib.hid k1; have K2 := Lib.hid k2
      clear k1 k2 hT
      go_enter Tryz.func165, Tryz.ntmps165
      go_wp2_with (first | (go_at_call 44; (with_reducible refine Calls.mono (K1.out _) ?_); rintro r w1 ⟨rfl, rfl⟩) | (go_at_call 44; (with_reducible refine Calls.mono (K2.out _) ?_); rintro r w1 ⟨rfl, rfl⟩))
      all_goals go_ret
      all_goals exact ⟨rfl, (by repeat (first | with_reducible exact Below.refl _ _ | with_reducible assumption | with_reducible refine Below.setCell ?_ (by first | omega | (simp; done) | (simp <;> omega)) _ | with_reducible refine below_drewN ?_ _ | with_reducible refine Below.drew ?_ | with_reducible refine Below.alloc ?_ (by first | omega | (simp; done) | (simp <;> omega)) _))⟩
  · rw [show inr n 0 999999999999 = false by simp [inr]; omega] at k1
    rw [digW_no (by omega)]
    have K1 := Lib.hid k1
    clear k1 k2 hT
    go_enter Tryz.func165, Tryz.ntmps165
    go_wp2_with (go_at_call 44; (with_reducible refine Calls.mono (K1.out _) ?_); rintro r w1 ⟨rfl, rfl⟩)
    all_goals go_ret
    all_goals exact ⟨rfl, (by repeat (first | with_reducible exact Below.refl _ _ | with_reducible assumption | with_reducible refine Below.setCell ?_ (by first | omega | (simp; done) | (simp <;> omega)) _ | with_reducible refine below_drewN ?_ _ | with_reducible refine Below.drew ?_ | with_reducible refine Below.alloc ?_ (by first | omega | (simp; done) | (simp <;> omega)) _))⟩
end Go.Proofs.YtebheehjhnaklaaGreatDoor
