import Derived.Test.YtkpdpohnbnpelaaGreatDoorN6
namespace Go.Proofs.YtkpdpohnbnpelaaGreatDoor
open Go.RowKit
set_option maxRecDepth 100000 in
set_option maxHeartbeats 4000000 in
theorem formatBits_odd (b n : Nat) (h : b = 3 ∨ b = 5 ∨ b = 6 ∨ b = 7 ∨ b = 9 ∨ b = 11 ∨ b = 12 ∨ b = 13 ∨ b = 14 ∨ b = 15) (hn : n ≤ 999999999999) (w : World) :
    Calls Tryz.prog 121 #[.slice none 0 0, .int .u64 n, .int .i64 b, .bool false, .bool false] w fun r w' => r = .returned (.tuple #[.slice none 0 0, .string ⟨(digs false b n).toArray⟩]) ∧ Below w.heap.size w w' := by
  have kp := fun W => isPow_no b h W
  have h2 : 2 ≤ b := by omega
  have h16 : b ≤ 16 := by omega
  have i1 : 2 ≤ (b : Int) := by omega
  have i2 : (b : Int) ≤ 36 := by omega
  have i3 : ¬ (b : Int) = 10 := by omega
  have i4 : ((b : Int) == 10) = false := by simpa using i3
  have i5 : ¬ b = 10 := by omega
  have i6 : ¬ (b : Int) < 2 := by omega
  have i7 : ¬ (36 : Int) < b := by omega
  have i8 : ¬ b = 0 := by omega
  have KP := Lib.hid kp
  clear kp h
  have hI := Lib.hid (Buf.init w 130)
  have hBI : Below w.heap.size w (w.alloc (.cells Tryz.zeroCells130 130)) := (Below.refl _ _).alloc (Nat.le_refl _) _
  go_enter Tryz.func121, Tryz.ntmps121
  go_wp2_with (go_at_call 132; (with_reducible refine Calls.mono (KP.out _) ?_); rintro r w1 ⟨rfl, rfl⟩)
  go_loopg [13, 1] n (fun g s13 s1 wr => ∃ (m u : Nat) (T : List UInt8), s13 = .int .i64 m ∧ s1 = .int .u64 u ∧ m + T.length = 65 ∧ T.length ≤ 40 ∧ u ≤ 999999999999 ∧ Aside (u * 2 ^ T.length ≤ 999999999999) ∧ Below w.heap.size w wr ∧ Aside (Buf w.heap.size T wr) ∧ Aside (digs false b u ++ T = digs false b n) ∧ Aside (g = u))
  case atStart => exact ⟨65, n, [], rfl, rfl, rfl, by simp, hn, by show _ ≤ _; simpa using hn, hBI, hI.out, by show _ = _; simp, rfl⟩
  case round =>
    clear hI hBI
    obtain ⟨m, u, T, rfl, rfl, hmT, hT40, hu, hp, hB, hbuf, hd, hg⟩ := hrel
    have hp' := hp.out
    have hbuf' := hbuf.out
    have hd' := hd.out
    have hg' := hg.out
    clear hbuf hd hg hp
    obtain ⟨k, rfl⟩ : ∃ k, m = k + 1 := ⟨m - 1, by omega⟩
    obtain ⟨ov, hov⟩ := hbuf'.old k (by omega)
    have hfz := hbuf'.fz k
    have hglt := hbuf'.lt
    by_cases hlt : b ≤ u
    · have hu1 : 1 ≤ u := by omega
      have j1 : (b : Int) ≤ u := by omega
      have j2 : ¬ (u : Int) < b := by omega
      have hr := Nat.mod_lt u (show 0 < b by omega)
      have hq := div_lt_of h2 hlt
      have hda := Nat.div_add_mod u b
      have hN : digs false b u = digs false b (u / b) ++ [dch false (u % b)] := digs_ge h2 hlt
      have hroom := half_room h2 hp'
      have hlen := pow_room hu1 hp'
      have hdiv : (u : Int) / b = ((u / b : Nat) : Int) := rfl
      rw [hN, List.append_assoc] at hd'
      have hpush := hbuf'.push (m := k) (by omega) (dch false (u % b))
      have hr16 : u % b < 16 := by omega
      generalize hDd : dch false (u % b) = D at *
      generalize u / b = q at *
      generalize u % b = r at *
      have hld := (lit_dch hr16).trans hDd
      have hqb : ((b * q : Nat) : Int) = (q : Int) * b := by rw [Nat.mul_comm]; push_cast; rfl
      have hqb2 : b * q ≤ u := by omega
      have e1 : IntKind.u64.wrap (q : Int) = q := u64_in (by omega) (by omega)
      have e2 : IntKind.u64.wrap ((q : Int) * b) = (q : Int) * b := u64_in (by omega) (by omega)
      have e3 : IntKind.u64.wrap ((u : Int) - (q : Int) * b) = r := by rw [← hqb]; exact (u64_in (by omega) (by omega)).trans (by omega)
      have e4 : (r : Int) < 36 := by omega
      clear hDd
      have HD := Lib.hid hd'; have HN := Lib.hid hpush; have HR := Lib.hid hroom; have HL := Lib.hid hld
      clear hd' hpush hroom hld hbuf' hN hp' hda hqb hqb2
      go_wp2
      have hw := HL.out
      go_roundg q
      case measure => omega
      case rel =>
        refine ⟨k, q, D :: T, rfl, rfl, by simp; omega, by simp; omega, by omega, HR.out, ?_, ?_, HD.out, rfl⟩
        · exact hB.setCell (by simp) _
        · show Buf _ _ _
          rw [hw]
          exact HN.out
    · have j1 : ¬ (b : Int) ≤ u := by omega
      have j2 : (u : Int) < b := by omega
      have j3 : (u : Int) < 36 := by omega
      rw [digs_lt (by omega)] at hd'
      have hpush := hbuf'.push (m := k) (by omega) (dch false u)
      have hld := lit_dch (show u < 16 by omega)
      have hsl := fun W => slice65 w.heap.size k W (by omega)
      have hL : ([dch false u] ++ T).length = 65 - k := by simp; omega
      rw [List.singleton_append] at hd' hL
      have hcells := hpush.cells (k := k) (by simp; omega)
      rw [hd'] at hcells hL
      have hback := run_convert_bytes_back (P := Tryz.prog) (wr.setCell ⟨w.heap.size, k, none⟩ (.int .u8 ((dch false u).toNat : Int))) 29 9 5 ⟨w.heap.size, k, none⟩ (65 - k) (digs false b n) Tryz.underlying29 Tryz.underlying5 Tryz.underlying9 hcells
      rw [hL] at hback
      rw [← hld] at hback
      clear hcells hpush hd' hp' hbuf' hld
      go_wp2
      go_ret2
      exact ⟨rfl, hB.setCell (by simp) _⟩
end Go.Proofs.YtkpdpohnbnpelaaGreatDoor
