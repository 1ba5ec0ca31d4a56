import Derived.Test.YtebheehjhnaklaaGreatDoorC3T
namespace Go.Proofs.YtebheehjhnaklaaGreatDoor
open Go.RowKit
theorem less_one (a b : UInt8) : Op.bytesLess [a] [b] = decide (a < b) := by
  simp [Op.bytesLess]
/-- a printable byte -/
def okByte (b : UInt8) : Bool := !decide (b < 32) && (decide (b < 126) || b == 126)
set_option maxHeartbeats 1000000 in
theorem isPrintable_one (b : UInt8) (w : World) :
    Calls Tryz.prog 194 #[.string ⟨#[b]⟩] w fun r w' => r = .returned (.bool (okByte b)) ∧ w = w' := by
  go_enter Tryz.func194, Tryz.ntmps194
  go_wp2
  all_goals go_ret
  all_goals refine ⟨ret_bool ?_, rfl⟩
  all_goals simp_all [okByte, less_one]
set_option maxHeartbeats 1000000 in
theorem isPrintable_no (s : ByteArray) (h : s.size ≠ 1) (w : World) :
    Calls Tryz.prog 194 #[.string s] w fun r w' => r = .returned (.bool false) ∧ w = w' := by
  have h' : ¬ (s.size : Int) = 1 := by omega
  go_enter Tryz.func194, Tryz.ntmps194
  go_wp2
  all_goals go_ret
  all_goals exact ⟨rfl, rfl⟩
def okFill (f : ByteArray) (al : Int) : Bool := match f.data.toList with | [] => true | [b] => !(al == 0) && okByte b && !(b == 123) && !(b == 125) | _ => false
def types : List UInt8 := [100, 98, 111, 120, 88, 99, 115, 102, 101, 69, 103, 71, 37]
def okType (t : ByteArray) : Bool := match t.data.toList with | [] => true | [b] => decide (0 ≤ Lib.indexByte types b) | _ => false
set_option maxRecDepth 100000 in
set_option maxHeartbeats 2000000 in
theorem validType_any (f : ByteArray) (al si : Int) (alt ze : Bool) (wi gr pr : Int) (t : ByteArray) (w : World) :
    Calls Tryz.prog 202 #[.agg #[.string f, .int .i64 al, .int .i64 si, .bool alt, .bool ze, .int .i64 wi, .int .i64 gr, .int .i64 pr, .string t]] w fun r w' => r = .returned (.bool (okType t)) ∧ Below w.heap.size w w' := by
  rcases bytes_cases t with rfl | ⟨b, rfl⟩ | h
  · go_enter Tryz.func202, Tryz.ntmps202
    go_wp2
    go_ret
    exact ⟨rfl, (by repeat (first | with_reducible exact Below.refl _ _ | with_reducible assumption | with_reducible refine Below.setCell ?_ (by first | omega | (simp; done) | (simp <;> omega)) _ | with_reducible refine below_drewN ?_ _ | with_reducible refine Below.drew ?_ | with_reducible refine Below.alloc ?_ (by first | omega | (simp; done) | (simp <;> omega)) _))⟩
  · go_enter Tryz.func202, Tryz.ntmps202
    go_wp2_with (go_at_call 100; refine (Tryz.strings_Contains_one _ _ _).mono ?_; rintro r w1 ⟨rfl, rfl⟩)
    go_ret
    exact ⟨rfl, (by repeat (first | with_reducible exact Below.refl _ _ | with_reducible assumption | with_reducible refine Below.setCell ?_ (by first | omega | (simp; done) | (simp <;> omega)) _ | with_reducible refine below_drewN ?_ _ | with_reducible refine Below.drew ?_ | with_reducible refine Below.alloc ?_ (by first | omega | (simp; done) | (simp <;> omega)) _))⟩
  · have hk : okType t = false := by
      obtain ⟨⟨l⟩⟩ := t
      match l, h with
      | _ :: _ :: _, _ => rfl
    go_enter Tryz.func202, Tryz.ntmps202
    go_wp2
    go_ret
    exact ⟨ret_bool (by first | exact hk.symm | rfl), (by repeat (first | with_reducible exact Below.refl _ _ | with_reducible assumption | with_reducible refine Below.setCell ?_ (by first | omega | (simp; done) | (simp <;> omega)) _ | with_reducible refine below_drewN ?_ _ | with_reducible refine Below.drew ?_ | with_reducible refine Below.alloc ?_ (by first | omega | (simp; done) | (simp <;> omega)) _))⟩
set_option maxHeartbeats 2000000 in
theorem validFill_any (f : ByteArray) (al si : Int) (alt ze : Bool) (wi gr pr : Int) (t : ByteArray) (w : World) :
    Calls Tryz.prog 201 #[.agg #[.string f, .int .i64 al, .int .i64 si, .bool alt, .bool ze, .int .i64 wi, .int .i64 gr, .int .i64 pr, .string t]] w fun r w' => r = .returned (.bool (okFill f al)) ∧ Below w.heap.size w w' := by
  rcases bytes_cases f with rfl | ⟨b, rfl⟩ | h
  · go_enter Tryz.func201, Tryz.ntmps201
    go_wp2
    go_ret
    exact ⟨rfl, (by repeat (first | with_reducible exact Below.refl _ _ | with_reducible assumption | with_reducible refine Below.setCell ?_ (by first | omega | (simp; done) | (simp <;> omega)) _ | with_reducible refine below_drewN ?_ _ | with_reducible refine Below.drew ?_ | with_reducible refine Below.alloc ?_ (by first | omega | (simp; done) | (simp <;> omega)) _))⟩
  · go_enter Tryz.func201, Tryz.ntmps201
    go_wp2_with (go_at_call 194; refine (isPrintable_one _ _).mono ?_; rintro r w1 ⟨rfl, rfl⟩)
    all_goals go_ret
    all_goals refine ⟨ret_bool ?_, (by repeat (first | with_reducible exact Below.refl _ _ | with_reducible assumption | with_reducible refine Below.setCell ?_ (by first | omega | (simp; done) | (simp <;> omega)) _ | with_reducible refine below_drewN ?_ _ | with_reducible refine Below.drew ?_ | with_reducible refine Below.alloc ?_ (by first | omega | (simp; done) | (simp <;> omega)) _))⟩
    all_goals first | (simp_all; done) | (simp_all [okFill]; done) | (simp_all [okByte]; done) | (simp_all [bne]; done) | (simp_all [okFill, okByte]; done) | (simp_all [okFill, bne]; done) | (simp_all [okByte, bne]; done) | (simp_all [okFill, okByte, bne]; done) | (exact hk.symm)
  · have hk : okFill f al = false := by
      obtain ⟨⟨l⟩⟩ := f
      match l, h with
      | _ :: _ :: _, _ => rfl
    have hne : f.toList.isEmpty = false := nonempty_list (by omega)
    go_enter Tryz.func201, Tryz.ntmps201
    go_wp2_with (go_at_call 194; refine (isPrintable_no _ (by omega) _).mono ?_; rintro r w1 ⟨rfl, rfl⟩)
    all_goals go_ret
    all_goals refine ⟨ret_bool ?_, (by repeat (first | with_reducible exact Below.refl _ _ | with_reducible assumption | with_reducible refine Below.setCell ?_ (by first | omega | (simp; done) | (simp <;> omega)) _ | with_reducible refine below_drewN ?_ _ | with_reducible refine Below.drew ?_ | with_reducible refine Below.alloc ?_ (by first | omega | (simp; done) | (simp <;> omega)) _))⟩
    all_goals first | (simp_all; done) | (simp_all [okFill]; done) | (simp_all [okByte]; done) | (simp_all [bne]; done) | (simp_all [okFill, okByte]; done) | (simp_all [okFill, bne]; done) | (simp_all [okByte, bne]; done) | (simp_all [okFill, okByte, bne]; done) | (exact hk.symm)
/-- a valid specification -/
def vSp (f : ByteArray) (al si wi gr pr : Int) (t : ByteArray) : Bool := inr al 0 4 && inr si 0 3 && inr gr 0 2 && inr wi 0 30 && inr pr (-1) 9 && okFill f al && okType t
set_option maxHeartbeats 4000000 in
theorem ValidSpec_any (f : ByteArray) (al si : Int) (alt ze : Bool) (wi gr pr : Int) (t : ByteArray) (w : World) :
    Calls Tryz.prog 138 #[.agg #[.string f, .int .i64 al, .int .i64 si, .bool alt, .bool ze, .int .i64 wi, .int .i64 gr, .int .i64 pr, .string t]] w fun r w' => r = .returned (.bool (vSp f al si wi gr pr t)) ∧ Below w.heap.size w w' := by
  have k1 := fun W => validFill_any f al si alt ze wi gr pr t W
  have k2 := fun W => validType_any f al si alt ze wi gr pr t W
  have hv : vSp f al si wi gr pr t = (inr al 0 4 && inr si 0 3 && inr gr 0 2 && inr wi 0 30 && inr pr (-1) 9 && okFill f al && okType t) := rfl
  rw [hv]
  clear hv
  have k3 := fun W => within_any al 0 4 W
  have k4 := fun W => within_any si 0 3 W
  have k5 := fun W => within_any gr 0 2 W
  have k6 := fun W => within_any wi 0 30 W
  have k7 := fun W => within_any pr (-1) 9 W
  generalize okFill f al = b1 at *
  generalize okType t = b2 at *
  generalize inr al 0 4 = b3 at *
  generalize inr si 0 3 = b4 at *
  generalize inr gr 0 2 = b5 at *
  generalize inr wi 0 30 = b6 at *
  generalize inr pr (-1) 9 = b7 at *
  have K1 := Lib.hid k1; have K2 := Lib.hid k2; have K3 := Lib.hid k3; have K4 := Lib.hid k4; have K5 := Lib.hid k5; have K6 := Lib.hid k6; have K7 := Lib.hid k7
  clear k1 k2 k3 k4 k5 k6 k7
  go_enter Tryz.func138, Tryz.ntmps138
  go_wp2_with (first | (go_at_call 44; (with_reducible refine Calls.mono (K3.out _) ?_); rintro r w1 ⟨rfl, rfl⟩) | (go_at_call 44; (with_reducible refine Calls.mono (K4.out _) ?_); rintro r w1 ⟨rfl, rfl⟩) | (go_at_call 44; (with_reducible refine Calls.mono (K5.out _) ?_); rintro r w1 ⟨rfl, rfl⟩) | (go_at_call 44; (with_reducible refine Calls.mono (K6.out _) ?_); rintro r w1 ⟨rfl, rfl⟩) | (go_at_call 44; (with_reducible refine Calls.mono (K7.out _) ?_); rintro r w1 ⟨rfl, rfl⟩) | (go_at_call 201; (with_reducible refine Calls.mono (K1.out _) ?_); rintro r w1 ⟨rfl, hb⟩; (first | (have hcc := fun o => hb.cell (p := ⟨w.heap.size, o, none⟩) (by simp)) | skip); have hz := hb.size; (try simp at hz); have hB : Below w.heap.size w w1 := (by refine Below.trans ?_ (hb.mono (by first | omega | (simp; done) | (simp <;> omega))); repeat (first | with_reducible exact Below.refl _ _ | with_reducible assumption | with_reducible refine Below.setCell ?_ (by first | omega | (simp; done) | (simp <;> omega)) _ | with_reducible refine below_drewN ?_ _ | with_reducible refine Below.drew ?_ | with_reducible refine Below.alloc ?_ (by first | omega | (simp; done) | (simp <;> omega)) _))) | (go_at_call 202; (with_reducible refine Calls.mono (K2.out _) ?_); rintro r w1 ⟨rfl, hb⟩;  have hz := hb.size; (try simp at hz); have hB : Below w.heap.size w w1 := (by refine Below.trans ?_ (hb.mono (by first | omega | (simp; done) | (simp <;> omega))); repeat (first | with_reducible exact Below.refl _ _ | with_reducible assumption | with_reducible refine Below.setCell ?_ (by first | omega | (simp; done) | (simp <;> omega)) _ | with_reducible refine below_drewN ?_ _ | with_reducible refine Below.drew ?_ | with_reducible refine Below.alloc ?_ (by first | omega | (simp; done) | (simp <;> omega)) _))))
  all_goals go_ret
  all_goals refine ⟨ret_bool ?_, (by repeat (first | with_reducible exact Below.refl _ _ | with_reducible assumption | with_reducible refine Below.setCell ?_ (by first | omega | (simp; done) | (simp <;> omega)) _ | with_reducible refine below_drewN ?_ _ | with_reducible refine Below.drew ?_ | with_reducible refine Below.alloc ?_ (by first | omega | (simp; done) | (simp <;> omega)) _))⟩
  all_goals simp_all
end Go.Proofs.YtebheehjhnaklaaGreatDoor
namespace Go.Proofs.YtebheehjhnaklaaGreatDoor
open Go.RowKit
theorem okByte_nat (b : UInt8) : okByte b = (decide (32 ≤ b.toNat) && decide (b.toNat ≤ 126)) := by
  have h1 : (b < 32) ↔ b.toNat < 32 := UInt8.lt_iff_toNat_lt
  have h2 : (b < 126) ↔ b.toNat < 126 := UInt8.lt_iff_toNat_lt
  have h3 : (b == 126) = decide (b.toNat = 126) := by
    by_cases h : b = 126
    · subst h; rfl
    · have : ¬ b.toNat = 126 := fun q => h (UInt8.toNat_inj.1 q)
      simp [h, this]
  unfold okByte
  rw [h3]
  simp only [h1, h2]
  rw [Bool.eq_iff_iff]
  simp
  omega
set_option maxHeartbeats 2000000 in
theorem printableS_one (b : UInt8) (w : World) :
    Calls Tryz.prog 131 #[.string ⟨#[b]⟩] w fun r w' => r = .returned (.bool (okByte b)) ∧ w = w' := by
  have e : ((⟨#[b]⟩ : ByteArray)[0]'(by simp [ByteArray.size])) = b := rfl
  go_enter Tryz.func131, Tryz.ntmps131
  go_wp2
  refine wp_loop_rounds 2 ?_
  rw [rounds_succ]
  go_wp2
  · rename_i h0 h
    go_ret
    exact ⟨ret_bool (by rw [okByte_nat, Bool.eq_iff_iff]; simp; omega), rfl⟩
  · rw [rounds_succ]
    go_wp2
    go_ret
    exact ⟨ret_bool (by rw [okByte_nat, Bool.eq_iff_iff]; simp; omega), rfl⟩
  · go_ret
    exact ⟨ret_bool (by rw [okByte_nat, Bool.eq_iff_iff]; simp; omega), rfl⟩
set_option maxHeartbeats 4000000 in
theorem indexOfS_types (b : UInt8) (w : World) :
    Calls Tryz.prog 117 #[.string ⟨#[100, 98, 111, 120, 88, 99, 115, 102, 101, 69, 103, 71, 37]⟩, .int .u8 b.toNat] w fun r w' => r = .returned (.int .i64 (Lib.indexByte types b)) ∧ w = w' := by
  go_enter Tryz.func117, Tryz.ntmps117
  go_wp2
  refine wp_loop_rounds 14 ?_
  rw [rounds_succ]
  go_wp2
  · rename_i h
    have hb : b = 100 := byte_eq h
    subst hb
    go_ret
    exact ⟨rfl, rfl⟩
  rename_i h
  have g0 : ((100 : UInt8) == b) = false := byte_ne h
  clear h
  rw [rounds_succ]
  go_wp2
  · rename_i h
    have hb : b = 98 := byte_eq h
    subst hb
    go_ret
    exact ⟨rfl, rfl⟩
  rename_i h
  have g1 : ((98 : UInt8) == b) = false := byte_ne h
  clear h
  rw [rounds_succ]
  go_wp2
  · rename_i h
    have hb : b = 111 := byte_eq h
    subst hb
    go_ret
    exact ⟨rfl, rfl⟩
  rename_i h
  have g2 : ((111 : UInt8) == b) = false := byte_ne h
  clear h
  rw [rounds_succ]
  go_wp2
  · rename_i h
    have hb : b = 120 := byte_eq h
    subst hb
    go_ret
    exact ⟨rfl, rfl⟩
  rename_i h
  have g3 : ((120 : UInt8) == b) = false := byte_ne h
  clear h
  rw [rounds_succ]
  go_wp2
  · rename_i h
    have hb : b = 88 := byte_eq h
    subst hb
    go_ret
    exact ⟨rfl, rfl⟩
  rename_i h
  have g4 : ((88 : UInt8) == b) = false := byte_ne h
  clear h
  rw [rounds_succ]
  go_wp2
  · rename_i h
    have hb : b = 99 := byte_eq h
    subst hb
    go_ret
    exact ⟨rfl, rfl⟩
  rename_i h
  have g5 : ((99 : UInt8) == b) = false := byte_ne h
  clear h
  rw [rounds_succ]
  go_wp2
  · rename_i h
    have hb : b = 115 := byte_eq h
    subst hb
    go_ret
    exact ⟨rfl, rfl⟩
  rename_i h
  have g6 : ((115 : UInt8) == b) = false := byte_ne h
  clear h
  rw [rounds_succ]
  go_wp2
  · rename_i h
    have hb : b = 102 := byte_eq h
    subst hb
    go_ret
    exact ⟨rfl, rfl⟩
  rename_i h
  have g7 : ((102 : UInt8) == b) = false := byte_ne h
  clear h
  rw [rounds_succ]
  go_wp2
  · rename_i h
    have hb : b = 101 := byte_eq h
    subst hb
    go_ret
    exact ⟨rfl, rfl⟩
  rename_i h
  have g8 : ((101 : UInt8) == b) = false := byte_ne h
  clear h
  rw [rounds_succ]
  go_wp2
  · rename_i h
    have hb : b = 69 := byte_eq h
    subst hb
    go_ret
    exact ⟨rfl, rfl⟩
  rename_i h
  have g9 : ((69 : UInt8) == b) = false := byte_ne h
  clear h
  rw [rounds_succ]
  go_wp2
  · rename_i h
    have hb : b = 103 := byte_eq h
    subst hb
    go_ret
    exact ⟨rfl, rfl⟩
  rename_i h
  have g10 : ((103 : UInt8) == b) = false := byte_ne h
  clear h
  rw [rounds_succ]
  go_wp2
  · rename_i h
    have hb : b = 71 := byte_eq h
    subst hb
    go_ret
    exact ⟨rfl, rfl⟩
  rename_i h
  have g11 : ((71 : UInt8) == b) = false := byte_ne h
  clear h
  rw [rounds_succ]
  go_wp2
  · rename_i h
    have hb : b = 37 := byte_eq h
    subst hb
    go_ret
    exact ⟨rfl, rfl⟩
  rename_i h
  have g12 : ((37 : UInt8) == b) = false := byte_ne h
  clear h
  rw [rounds_succ]
  go_wp2
  go_ret
  exact ⟨ret_int (by simp [Lib.indexByte, types, g0, g1, g2, g3, g4, g5, g6, g7, g8, g9, g10, g11, g12]), rfl⟩
theorem okFill_two {f : ByteArray} (h : 2 ≤ f.size) (al : Int) : okFill f al = false := by
  obtain ⟨⟨l⟩⟩ := f
  match l, h with
  | _ :: _ :: _, _ => rfl
theorem okType_two {t : ByteArray} (h : 2 ≤ t.size) : okType t = false := by
  obtain ⟨⟨l⟩⟩ := t
  match l, h with
  | _ :: _ :: _, _ => rfl
set_option maxRecDepth 100000 in
set_option maxHeartbeats 16000000 in
theorem validSpecS_any (f : ByteArray) (al si : Int) (alt ze : Bool) (wi gr pr : Int) (t : ByteArray) (w : World) :
    Calls Tryz.prog 80 #[.agg #[.string f, .int .i64 al, .int .i64 si, .bool alt, .bool ze, .int .i64 wi, .int .i64 gr, .int .i64 pr, .string t]] w fun r w' => r = .returned (.bool (vSp f al si wi gr pr t)) ∧ Below w.heap.size w w' := by
  have k3 := fun W => inRangeS_any al 0 4 W
  have k4 := fun W => inRangeS_any si 0 3 W
  have k5 := fun W => inRangeS_any gr 0 2 W
  have k6 := fun W => inRangeS_any wi 0 30 W
  have k7 := fun W => inRangeS_any pr (-1) 9 W
  have hv : vSp f al si wi gr pr t = (inr al 0 4 && inr si 0 3 && inr gr 0 2 && inr wi 0 30 && inr pr (-1) 9 && okFill f al && okType t) := rfl
  rw [hv]
  clear hv
  generalize inr al 0 4 = b3 at *
  generalize inr si 0 3 = b4 at *
  generalize inr gr 0 2 = b5 at *
  generalize inr wi 0 30 = b6 at *
  generalize inr pr (-1) 9 = b7 at *
  have K3 := Lib.hid k3; have K4 := Lib.hid k4; have K5 := Lib.hid k5; have K6 := Lib.hid k6; have K7 := Lib.hid k7
  clear k3 k4 k5 k6 k7
  rcases bytes_cases f with rfl | ⟨b, rfl⟩ | hf
  · skip
    rcases bytes_cases t with rfl | ⟨y, rfl⟩ | ht
    · skip
      go_enter Tryz.func80, Tryz.ntmps80
      go_wp2_with (first | (go_at_call 48; (with_reducible refine Calls.mono (K3.out _) ?_); rintro r w1 ⟨rfl, rfl⟩) | (go_at_call 48; (with_reducible refine Calls.mono (K4.out _) ?_); rintro r w1 ⟨rfl, rfl⟩) | (go_at_call 48; (with_reducible refine Calls.mono (K5.out _) ?_); rintro r w1 ⟨rfl, rfl⟩) | (go_at_call 48; (with_reducible refine Calls.mono (K6.out _) ?_); rintro r w1 ⟨rfl, rfl⟩) | (go_at_call 48; (with_reducible refine Calls.mono (K7.out _) ?_); rintro r w1 ⟨rfl, rfl⟩) | (go_at_call 131; (with_reducible refine Calls.mono (printableS_one _ _) ?_); rintro r w1 ⟨rfl, rfl⟩) | (go_at_call 117; (with_reducible refine Calls.mono (indexOfS_types _ _) ?_); rintro r w1 ⟨rfl, rfl⟩))
      all_goals go_ret
      all_goals refine ⟨ret_bool ?_, (by repeat (first | with_reducible exact Below.refl _ _ | with_reducible assumption | with_reducible refine Below.setCell ?_ (by first | omega | (simp; done) | (simp <;> omega)) _ | with_reducible refine below_drewN ?_ _ | with_reducible refine Below.drew ?_ | with_reducible refine Below.alloc ?_ (by first | omega | (simp; done) | (simp <;> omega)) _))⟩
      all_goals first | (simp_all; done) | (simp_all [okFill]; done) | (simp_all [okType]; done) | (simp_all [okFill, okType]; done) | (simp_all [okFill, bne]; done) | (simp_all [okType, bne]; done) | (simp_all [okFill, okType, bne]; done)
    · have e : ((⟨#[y]⟩ : ByteArray)[0]'(by simp [ByteArray.size])) = y := rfl
      go_enter Tryz.func80, Tryz.ntmps80
      go_wp2_with (first | (go_at_call 48; (with_reducible refine Calls.mono (K3.out _) ?_); rintro r w1 ⟨rfl, rfl⟩) | (go_at_call 48; (with_reducible refine Calls.mono (K4.out _) ?_); rintro r w1 ⟨rfl, rfl⟩) | (go_at_call 48; (with_reducible refine Calls.mono (K5.out _) ?_); rintro r w1 ⟨rfl, rfl⟩) | (go_at_call 48; (with_reducible refine Calls.mono (K6.out _) ?_); rintro r w1 ⟨rfl, rfl⟩) | (go_at_call 48; (with_reducible refine Calls.mono (K7.out _) ?_); rintro r w1 ⟨rfl, rfl⟩) | (go_at_call 131; (with_reducible refine Calls.mono (printableS_one _ _) ?_); rintro r w1 ⟨rfl, rfl⟩) | (go_at_call 117; (with_reducible refine Calls.mono (indexOfS_types _ _) ?_); rintro r w1 ⟨rfl, rfl⟩))
      all_goals go_ret
      all_goals refine ⟨ret_bool ?_, (by repeat (first | with_reducible exact Below.refl _ _ | with_reducible assumption | with_reducible refine Below.setCell ?_ (by first | omega | (simp; done) | (simp <;> omega)) _ | with_reducible refine below_drewN ?_ _ | with_reducible refine Below.drew ?_ | with_reducible refine Below.alloc ?_ (by first | omega | (simp; done) | (simp <;> omega)) _))⟩
      all_goals first | (simp_all; done) | (simp_all [okFill]; done) | (simp_all [okType]; done) | (simp_all [okFill, okType]; done) | (simp_all [okFill, bne]; done) | (simp_all [okType, bne]; done) | (simp_all [okFill, okType, bne]; done) | (have hx : okType ⟨#[y]⟩ = true := (show decide (0 ≤ Lib.indexByte types y) = true from decide_eq_true (by omega)); simp_all [okFill, bne]; done) | (have hx : okType ⟨#[y]⟩ = false := (show decide (0 ≤ Lib.indexByte types y) = false from decide_eq_false (by omega)); simp_all [okFill, bne]; done)
    · skip
      have hkt : okType t = false := okType_two ht
      have hnt : t.toList.isEmpty = false := nonempty_list (by omega)
      have hst : ¬ (t.size : Int) = 1 := by omega
      go_enter Tryz.func80, Tryz.ntmps80
      go_wp2_with (first | (go_at_call 48; (with_reducible refine Calls.mono (K3.out _) ?_); rintro r w1 ⟨rfl, rfl⟩) | (go_at_call 48; (with_reducible refine Calls.mono (K4.out _) ?_); rintro r w1 ⟨rfl, rfl⟩) | (go_at_call 48; (with_reducible refine Calls.mono (K5.out _) ?_); rintro r w1 ⟨rfl, rfl⟩) | (go_at_call 48; (with_reducible refine Calls.mono (K6.out _) ?_); rintro r w1 ⟨rfl, rfl⟩) | (go_at_call 48; (with_reducible refine Calls.mono (K7.out _) ?_); rintro r w1 ⟨rfl, rfl⟩) | (go_at_call 131; (with_reducible refine Calls.mono (printableS_one _ _) ?_); rintro r w1 ⟨rfl, rfl⟩) | (go_at_call 117; (with_reducible refine Calls.mono (indexOfS_types _ _) ?_); rintro r w1 ⟨rfl, rfl⟩))
      all_goals go_ret
      all_goals refine ⟨ret_bool ?_, (by repeat (first | with_reducible exact Below.refl _ _ | with_reducible assumption | with_reducible refine Below.setCell ?_ (by first | omega | (simp; done) | (simp <;> omega)) _ | with_reducible refine below_drewN ?_ _ | with_reducible refine Below.drew ?_ | with_reducible refine Below.alloc ?_ (by first | omega | (simp; done) | (simp <;> omega)) _))⟩
      all_goals first | (simp_all; done) | (simp_all [okFill]; done) | (simp_all [okType]; done) | (simp_all [okFill, okType]; done) | (simp_all [okFill, bne]; done) | (simp_all [okType, bne]; done) | (simp_all [okFill, okType, bne]; done)
  · skip
    rcases bytes_cases t with rfl | ⟨y, rfl⟩ | ht
    · skip
      go_enter Tryz.func80, Tryz.ntmps80
      go_wp2_with (first | (go_at_call 48; (with_reducible refine Calls.mono (K3.out _) ?_); rintro r w1 ⟨rfl, rfl⟩) | (go_at_call 48; (with_reducible refine Calls.mono (K4.out _) ?_); rintro r w1 ⟨rfl, rfl⟩) | (go_at_call 48; (with_reducible refine Calls.mono (K5.out _) ?_); rintro r w1 ⟨rfl, rfl⟩) | (go_at_call 48; (with_reducible refine Calls.mono (K6.out _) ?_); rintro r w1 ⟨rfl, rfl⟩) | (go_at_call 48; (with_reducible refine Calls.mono (K7.out _) ?_); rintro r w1 ⟨rfl, rfl⟩) | (go_at_call 131; (with_reducible refine Calls.mono (printableS_one _ _) ?_); rintro r w1 ⟨rfl, rfl⟩) | (go_at_call 117; (with_reducible refine Calls.mono (indexOfS_types _ _) ?_); rintro r w1 ⟨rfl, rfl⟩))
      all_goals go_ret
      all_goals refine ⟨ret_bool ?_, (by repeat (first | with_reducible exact Below.refl _ _ | with_reducible assumption | with_reducible refine Below.setCell ?_ (by first | omega | (simp; done) | (simp <;> omega)) _ | with_reducible refine below_drewN ?_ _ | with_reducible refine Below.drew ?_ | with_reducible refine Below.alloc ?_ (by first | omega | (simp; done) | (simp <;> omega)) _))⟩
      all_goals first | (simp_all; done) | (simp_all [okFill]; done) | (simp_all [okType]; done) | (simp_all [okFill, okType]; done) | (simp_all [okFill, bne]; done) | (simp_all [okType, bne]; done) | (simp_all [okFill, okType, bne]; done)
    · have e : ((⟨#[y]⟩ : ByteArray)[0]'(by simp [ByteArray.size])) = y := rfl
      go_enter Tryz.func80, Tryz.ntmps80
      go_wp2_with (first | (go_at_call 48; (with_reducible refine Calls.mono (K3.out _) ?_); rintro r w1 ⟨rfl, rfl⟩) | (go_at_call 48; (with_reducible refine Calls.mono (K4.out _) ?_); rintro r w1 ⟨rfl, rfl⟩) | (go_at_call 48; (with_reducible refine Calls.mono (K5.out _) ?_); rintro r w1 ⟨rfl, rfl⟩) | (go_at_call 48; (with_reducible refine Calls.mono (K6.out _) ?_); rintro r w1 ⟨rfl, rfl⟩) | (go_at_call 48; (with_reducible refine Calls.mono (K7.out _) ?_); rintro r w1 ⟨rfl, rfl⟩) | (go_at_call 131; (with_reducible refine Calls.mono (printableS_one _ _) ?_); rintro r w1 ⟨rfl, rfl⟩) | (go_at_call 117; (with_reducible refine Calls.mono (indexOfS_types _ _) ?_); rintro r w1 ⟨rfl, rfl⟩))
      all_goals go_ret
      all_goals refine ⟨ret_bool ?_, (by repeat (first | with_reducible exact Below.refl _ _ | with_reducible assumption | with_reducible refine Below.setCell ?_ (by first | omega | (simp; done) | (simp <;> omega)) _ | with_reducible refine below_drewN ?_ _ | with_reducible refine Below.drew ?_ | with_reducible refine Below.alloc ?_ (by first | omega | (simp; done) | (simp <;> omega)) _))⟩
      all_goals first | (simp_all; done) | (simp_all [okFill]; done) | (simp_all [okType]; done) | (simp_all [okFill, okType]; done) | (simp_all [okFill, bne]; done) | (simp_all [okType, bne]; done) | (simp_all [okFill, okType, bne]; done) | (have hx : okType ⟨#[y]⟩ = true := (show decide (0 ≤ Lib.indexByte types y) = true from decide_eq_true (by omega)); simp_all [okFill, bne]; done) | (have hx : okType ⟨#[y]⟩ = false := (show decide (0 ≤ Lib.indexByte types y) = false from decide_eq_false (by omega)); simp_all [okFill, bne]; done)
    · skip
      have hkt : okType t = false := okType_two ht
      have hnt : t.toList.isEmpty = false := nonempty_list (by omega)
      have hst : ¬ (t.size : Int) = 1 := by omega
      go_enter Tryz.func80, Tryz.ntmps80
      go_wp2_with (first | (go_at_call 48; (with_reducible refine Calls.mono (K3.out _) ?_); rintro r w1 ⟨rfl, rfl⟩) | (go_at_call 48; (with_reducible refine Calls.mono (K4.out _) ?_); rintro r w1 ⟨rfl, rfl⟩) | (go_at_call 48; (with_reducible refine Calls.mono (K5.out _) ?_); rintro r w1 ⟨rfl, rfl⟩) | (go_at_call 48; (with_reducible refine Calls.mono (K6.out _) ?_); rintro r w1 ⟨rfl, rfl⟩) | (go_at_call 48; (with_reducible refine Calls.mono (K7.out _) ?_); rintro r w1 ⟨rfl, rfl⟩) | (go_at_call 131; (with_reducible refine Calls.mono (printableS_one _ _) ?_); rintro r w1 ⟨rfl, rfl⟩) | (go_at_call 117; (with_reducible refine Calls.mono (indexOfS_types _ _) ?_); rintro r w1 ⟨rfl, rfl⟩))
      all_goals go_ret
      all_goals refine ⟨ret_bool ?_, (by repeat (first | with_reducible exact Below.refl _ _ | with_reducible assumption | with_reducible refine Below.setCell ?_ (by first | omega | (simp; done) | (simp <;> omega)) _ | with_reducible refine below_drewN ?_ _ | with_reducible refine Below.drew ?_ | with_reducible refine Below.alloc ?_ (by first | omega | (simp; done) | (simp <;> omega)) _))⟩
      all_goals first | (simp_all; done) | (simp_all [okFill]; done) | (simp_all [okType]; done) | (simp_all [okFill, okType]; done) | (simp_all [okFill, bne]; done) | (simp_all [okType, bne]; done) | (simp_all [okFill, okType, bne]; done)
  · skip
    have hk : okFill f al = false := okFill_two hf al
    have hn : f.toList.isEmpty = false := nonempty_list (by omega)
    have hs : ¬ (f.size : Int) = 1 := by omega
    rcases bytes_cases t with rfl | ⟨y, rfl⟩ | ht
    · skip
      go_enter Tryz.func80, Tryz.ntmps80
      go_wp2_with (first | (go_at_call 48; (with_reducible refine Calls.mono (K3.out _) ?_); rintro r w1 ⟨rfl, rfl⟩) | (go_at_call 48; (with_reducible refine Calls.mono (K4.out _) ?_); rintro r w1 ⟨rfl, rfl⟩) | (go_at_call 48; (with_reducible refine Calls.mono (K5.out _) ?_); rintro r w1 ⟨rfl, rfl⟩) | (go_at_call 48; (with_reducible refine Calls.mono (K6.out _) ?_); rintro r w1 ⟨rfl, rfl⟩) | (go_at_call 48; (with_reducible refine Calls.mono (K7.out _) ?_); rintro r w1 ⟨rfl, rfl⟩) | (go_at_call 131; (with_reducible refine Calls.mono (printableS_one _ _) ?_); rintro r w1 ⟨rfl, rfl⟩) | (go_at_call 117; (with_reducible refine Calls.mono (indexOfS_types _ _) ?_); rintro r w1 ⟨rfl, rfl⟩))
      all_goals go_ret
      all_goals refine ⟨ret_bool ?_, (by repeat (first | with_reducible exact Below.refl _ _ | with_reducible assumption | with_reducible refine Below.setCell ?_ (by first | omega | (simp; done) | (simp <;> omega)) _ | with_reducible refine below_drewN ?_ _ | with_reducible refine Below.drew ?_ | with_reducible refine Below.alloc ?_ (by first | omega | (simp; done) | (simp <;> omega)) _))⟩
      all_goals first | (simp_all; done) | (simp_all [okFill]; done) | (simp_all [okType]; done) | (simp_all [okFill, okType]; done) | (simp_all [okFill, bne]; done) | (simp_all [okType, bne]; done) | (simp_all [okFill, okType, bne]; done)
    · have e : ((⟨#[y]⟩ : ByteArray)[0]'(by simp [ByteArray.size])) = y := rfl
      go_enter Tryz.func80, Tryz.ntmps80
      go_wp2_with (first | (go_at_call 48; (with_reducible refine Calls.mono (K3.out _) ?_); rintro r w1 ⟨rfl, rfl⟩) | (go_at_call 48; (with_reducible refine Calls.mono (K4.out _) ?_); rintro r w1 ⟨rfl, rfl⟩) | (go_at_call 48; (with_reducible refine Calls.mono (K5.out _) ?_); rintro r w1 ⟨rfl, rfl⟩) | (go_at_call 48; (with_reducible refine Calls.mono (K6.out _) ?_); rintro r w1 ⟨rfl, rfl⟩) | (go_at_call 48; (with_reducible refine Calls.mono (K7.out _) ?_); rintro r w1 ⟨rfl, rfl⟩) | (go_at_call 131; (with_reducible refine Calls.mono (printableS_one _ _) ?_); rintro r w1 ⟨rfl, rfl⟩) | (go_at_call 117; (with_reducible refine Calls.mono (indexOfS_types _ _) ?_); rintro r w1 ⟨rfl, rfl⟩))
      all_goals go_ret
      all_goals refine ⟨ret_bool ?_, (by repeat (first | with_reducible exact Below.refl _ _ | with_reducible assumption | with_reducible refine Below.setCell ?_ (by first | omega | (simp; done) | (simp <;> omega)) _ | with_reducible refine below_drewN ?_ _ | with_reducible refine Below.drew ?_ | with_reducible refine Below.alloc ?_ (by first | omega | (simp; done) | (simp <;> omega)) _))⟩
      all_goals first | (simp_all; done) | (simp_all [okFill]; done) | (simp_all [okType]; done) | (simp_all [okFill, okType]; done) | (simp_all [okFill, bne]; done) | (simp_all [okType, bne]; done) | (simp_all [okFill, okType, bne]; done) | (have hx : okType ⟨#[y]⟩ = true := (show decide (0 ≤ Lib.indexByte types y) = true from decide_eq_true (by omega)); simp_all [okFill, bne]; done) | (have hx : okType ⟨#[y]⟩ = false := (show decide (0 ≤ Lib.indexByte types y) = false from decide_eq_false (by omega)); simp_all [okFill, bne]; done)
    · skip
      have hkt : okType t = false := okType_two ht
      have hnt : t.toList.isEmpty = false := nonempty_list (by omega)
      have hst : ¬ (t.size : Int) = 1 := by omega
      go_enter Tryz.func80, Tryz.ntmps80
      go_wp2_with (first | (go_at_call 48; (with_reducible refine Calls.mono (K3.out _) ?_); rintro r w1 ⟨rfl, rfl⟩) | (go_at_call 48; (with_reducible refine Calls.mono (K4.out _) ?_); rintro r w1 ⟨rfl, rfl⟩) | (go_at_call 48; (with_reducible refine Calls.mono (K5.out _) ?_); rintro r w1 ⟨rfl, rfl⟩) | (go_at_call 48; (with_reducible refine Calls.mono (K6.out _) ?_); rintro r w1 ⟨rfl, rfl⟩) | (go_at_call 48; (with_reducible refine Calls.mono (K7.out _) ?_); rintro r w1 ⟨rfl, rfl⟩) | (go_at_call 131; (with_reducible refine Calls.mono (printableS_one _ _) ?_); rintro r w1 ⟨rfl, rfl⟩) | (go_at_call 117; (with_reducible refine Calls.mono (indexOfS_types _ _) ?_); rintro r w1 ⟨rfl, rfl⟩))
      all_goals go_ret
      all_goals refine ⟨ret_bool ?_, (by repeat (first | with_reducible exact Below.refl _ _ | with_reducible assumption | with_reducible refine Below.setCell ?_ (by first | omega | (simp; done) | (simp <;> omega)) _ | with_reducible refine below_drewN ?_ _ | with_reducible refine Below.drew ?_ | with_reducible refine Below.alloc ?_ (by first | omega | (simp; done) | (simp <;> omega)) _))⟩
      all_goals first | (simp_all; done) | (simp_all [okFill]; done) | (simp_all [okType]; done) | (simp_all [okFill, okType]; done) | (simp_all [okFill, bne]; done) | (simp_all [okType, bne]; done) | (simp_all [okFill, okType, bne]; done)
end Go.Proofs.YtebheehjhnaklaaGreatDoor
namespace Go.Proofs.YtebheehjhnaklaaGreatDoor
open Go.RowKit
/-- the fill that a specification has -/
def fillW (v : Bool) (f : ByteArray) (ze : Bool) : ByteArray := if v then (if f.size = 0 then (if ze then ⟨#[48]⟩ else ⟨#[32]⟩) else f) else ⟨#[]⟩
set_option maxHeartbeats 4000000 in
theorem FillFor_any (f : ByteArray) (al si : Int) (alt ze : Bool) (wi gr pr : Int) (t : ByteArray) (w : World) :
    Calls Tryz.prog 146 #[.agg #[.string f, .int .i64 al, .int .i64 si, .bool alt, .bool ze, .int .i64 wi, .int .i64 gr, .int .i64 pr, .string t]] w fun r w' => r = .returned (.string (fillW (vSp f al si wi gr pr t) f ze)) ∧ Below w.heap.size w w' := by
  have k1 := fun W => ValidSpec_any f al si alt ze wi gr pr t W
  cases hv : vSp f al si wi gr pr t
  · rw [hv] at k1
    have K1 := Lib.hid k1
    clear k1
    go_enter Tryz.func146, Tryz.ntmps146
    go_wp2_with (first | (go_at_call 138; (with_reducible refine Calls.mono (K1.out _) ?_); rintro r w1 ⟨rfl, hb⟩; have hcc := fun o => hb.cell (p := ⟨w.heap.size, o, none⟩) (by simp); have hz := hb.size; (try simp at hz); have hB : Below w.heap.size w w1 := (by refine Below.trans ?_ (hb.mono (by first | omega | (simp; done) | (simp <;> omega))); repeat (first | with_reducible exact Below.refl _ _ | with_reducible assumption | with_reducible refine Below.setCell ?_ (by first | omega | (simp; done) | (simp <;> omega)) _ | with_reducible refine below_drewN ?_ _ | with_reducible refine Below.drew ?_ | with_reducible refine Below.alloc ?_ (by first | omega | (simp; done) | (simp <;> omega)) _))))
    all_goals go_ret
    all_goals exact ⟨ret_str rfl, (by repeat (first | with_reducible exact Below.refl _ _ | with_reducible assumption | with_reducible refine Below.setCell ?_ (by first | omega | (simp; done) | (simp <;> omega)) _ | with_reducible refine below_drewN ?_ _ | with_reducible refine Below.drew ?_ | with_reducible refine Below.alloc ?_ (by first | omega | (simp; done) | (simp <;> omega)) _))⟩
  rw [hv] at k1
  have K1 := Lib.hid k1
  clear k1 hv
  by_cases hf : f.size = 0
  · obtain rfl : f = ⟨#[]⟩ := by
      rcases bytes_cases f with h | ⟨b, rfl⟩ | h
      · exact h
      · exact absurd hf (by simp [ByteArray.size])
      · omega
    cases ze
    · go_enter Tryz.func146, Tryz.ntmps146
      go_wp2_with (first | (go_at_call 138; (with_reducible refine Calls.mono (K1.out _) ?_); rintro r w1 ⟨rfl, hb⟩; have hcc := fun o => hb.cell (p := ⟨w.heap.size, o, none⟩) (by simp); have hz := hb.size; (try simp at hz); have hB : Below w.heap.size w w1 := (by refine Below.trans ?_ (hb.mono (by first | omega | (simp; done) | (simp <;> omega))); repeat (first | with_reducible exact Below.refl _ _ | with_reducible assumption | with_reducible refine Below.setCell ?_ (by first | omega | (simp; done) | (simp <;> omega)) _ | with_reducible refine below_drewN ?_ _ | with_reducible refine Below.drew ?_ | with_reducible refine Below.alloc ?_ (by first | omega | (simp; done) | (simp <;> omega)) _))))
      all_goals go_ret
      all_goals exact ⟨ret_str rfl, (by repeat (first | with_reducible exact Below.refl _ _ | with_reducible assumption | with_reducible refine Below.setCell ?_ (by first | omega | (simp; done) | (simp <;> omega)) _ | with_reducible refine below_drewN ?_ _ | with_reducible refine Below.drew ?_ | with_reducible refine Below.alloc ?_ (by first | omega | (simp; done) | (simp <;> omega)) _))⟩
    · go_enter Tryz.func146, Tryz.ntmps146
      go_wp2_with (first | (go_at_call 138; (with_reducible refine Calls.mono (K1.out _) ?_); rintro r w1 ⟨rfl, hb⟩; have hcc := fun o => hb.cell (p := ⟨w.heap.size, o, none⟩) (by simp); have hz := hb.size; (try simp at hz); have hB : Below w.heap.size w w1 := (by refine Below.trans ?_ (hb.mono (by first | omega | (simp; done) | (simp <;> omega))); repeat (first | with_reducible exact Below.refl _ _ | with_reducible assumption | with_reducible refine Below.setCell ?_ (by first | omega | (simp; done) | (simp <;> omega)) _ | with_reducible refine below_drewN ?_ _ | with_reducible refine Below.drew ?_ | with_reducible refine Below.alloc ?_ (by first | omega | (simp; done) | (simp <;> omega)) _))))
      all_goals go_ret
      all_goals exact ⟨ret_str rfl, (by repeat (first | with_reducible exact Below.refl _ _ | with_reducible assumption | with_reducible refine Below.setCell ?_ (by first | omega | (simp; done) | (simp <;> omega)) _ | with_reducible refine below_drewN ?_ _ | with_reducible refine Below.drew ?_ | with_reducible refine Below.alloc ?_ (by first | omega | (simp; done) | (simp <;> omega)) _))⟩
  · have hn : f.toList.isEmpty = false := nonempty_list (by omega)
    have hx : fillW true f ze = f := by unfold fillW; rw [if_pos rfl, if_neg hf]
    have HX := Lib.hid hx
    clear hx hf
    go_enter Tryz.func146, Tryz.ntmps146
    go_wp2_with (first | (go_at_call 138; (with_reducible refine Calls.mono (K1.out _) ?_); rintro r w1 ⟨rfl, hb⟩; have hcc := fun o => hb.cell (p := ⟨w.heap.size, o, none⟩) (by simp); have hz := hb.size; (try simp at hz); have hB : Below w.heap.size w w1 := (by refine Below.trans ?_ (hb.mono (by first | omega | (simp; done) | (simp <;> omega))); repeat (first | with_reducible exact Below.refl _ _ | with_reducible assumption | with_reducible refine Below.setCell ?_ (by first | omega | (simp; done) | (simp <;> omega)) _ | with_reducible refine below_drewN ?_ _ | with_reducible refine Below.drew ?_ | with_reducible refine Below.alloc ?_ (by first | omega | (simp; done) | (simp <;> omega)) _))))
    all_goals go_ret
    all_goals exact ⟨ret_str HX.out.symm, (by repeat (first | with_reducible exact Below.refl _ _ | with_reducible assumption | with_reducible refine Below.setCell ?_ (by first | omega | (simp; done) | (simp <;> omega)) _ | with_reducible refine below_drewN ?_ _ | with_reducible refine Below.drew ?_ | with_reducible refine Below.alloc ?_ (by first | omega | (simp; done) | (simp <;> omega)) _))⟩
end Go.Proofs.YtebheehjhnaklaaGreatDoor
namespace Go.Proofs.YtebheehjhnaklaaGreatDoor
open Go.RowKit
end Go.Proofs.YtebheehjhnaklaaGreatDoor
