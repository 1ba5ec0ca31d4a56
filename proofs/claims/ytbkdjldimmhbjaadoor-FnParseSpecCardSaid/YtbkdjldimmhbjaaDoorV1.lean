import Derived.Test.YtbkdjldimmhbjaaDoorB
namespace Go.Proofs.YtbkdjldimmhbjaaDoor
open Go.RowKit
theorem less_one (a b : UInt8) : Op.bytesLess [a] [b] = decide (a < b) := by
  simp [Op.bytesLess]
/-- a printable byte -/
def okByte (b : UInt8) : Bool := !decide (b < 32) && (decide (b < 126) || b == 126)
set_option maxHeartbeats 1000000 in
theorem isPrintable_one (b : UInt8) (w : World) :
    Calls Tryd.prog 66 #[.string ⟨#[b]⟩] w fun r w' => r = .returned (.bool (okByte b)) ∧ w = w' := by
  go_enter Tryd.func66, Tryd.ntmps66
  go_wp2
  all_goals go_ret
  all_goals refine ⟨ret_bool ?_, rfl⟩
  all_goals simp_all [okByte, less_one]
set_option maxHeartbeats 1000000 in
theorem isPrintable_no (s : ByteArray) (h : s.size ≠ 1) (w : World) :
    Calls Tryd.prog 66 #[.string s] w fun r w' => r = .returned (.bool false) ∧ w = w' := by
  have h' : ¬ (s.size : Int) = 1 := by omega
  go_enter Tryd.func66, Tryd.ntmps66
  go_wp2
  all_goals go_ret
  all_goals exact ⟨rfl, rfl⟩

def okFill (f : ByteArray) (al : Int) : Bool := match f.data.toList with | [] => true | [b] => !(al == 0) && okByte b && !(b == 123) && !(b == 125) | _ => false
def types : List UInt8 := [100, 98, 111, 120, 88, 99, 115, 102, 101, 69, 103, 71, 37]
def okType (t : ByteArray) : Bool := match t.data.toList with | [] => true | [b] => decide (0 ≤ Lib.indexByte types b) | _ => false

set_option maxRecDepth 100000 in
set_option maxHeartbeats 2000000 in
theorem validType_any (f : ByteArray) (al si : Int) (alt ze : Bool) (wi gr pr : Int) (t : ByteArray) (w : World) :
    Calls Tryd.prog 40 #[.agg #[.string f, .int .i64 al, .int .i64 si, .bool alt, .bool ze, .int .i64 wi, .int .i64 gr, .int .i64 pr, .string t]] w fun r w' => r = .returned (.bool (okType t)) ∧ Below w.heap.size w w' := by
  rcases bytes_cases t with rfl | ⟨b, rfl⟩ | h
  · go_enter Tryd.func40, Tryd.ntmps40
    go_wp2
    go_ret
    exact ⟨rfl, (by repeat (first | with_reducible exact Below.refl _ _ | with_reducible assumption | with_reducible refine Below.setCell ?_ (by first | omega | (simp; done) | (simp <;> omega)) _ | with_reducible refine below_drewN ?_ _ | with_reducible refine Below.drew ?_ | with_reducible refine Below.alloc ?_ (by first | omega | (simp; done) | (simp <;> omega)) _))⟩
  · go_enter Tryd.func40, Tryd.ntmps40
    go_wp2_with (go_at_call 67; refine (Tryd.strings_Contains_one _ _ _).mono ?_; rintro r w1 ⟨rfl, rfl⟩)
    go_ret
    exact ⟨rfl, (by repeat (first | with_reducible exact Below.refl _ _ | with_reducible assumption | with_reducible refine Below.setCell ?_ (by first | omega | (simp; done) | (simp <;> omega)) _ | with_reducible refine below_drewN ?_ _ | with_reducible refine Below.drew ?_ | with_reducible refine Below.alloc ?_ (by first | omega | (simp; done) | (simp <;> omega)) _))⟩
  · have hk : okType t = false := by
      obtain ⟨⟨l⟩⟩ := t
      match l, h with
      | _ :: _ :: _, _ => rfl
    go_enter Tryd.func40, Tryd.ntmps40
    go_wp2
    go_ret
    exact ⟨ret_bool (by first | exact hk.symm | rfl), (by repeat (first | with_reducible exact Below.refl _ _ | with_reducible assumption | with_reducible refine Below.setCell ?_ (by first | omega | (simp; done) | (simp <;> omega)) _ | with_reducible refine below_drewN ?_ _ | with_reducible refine Below.drew ?_ | with_reducible refine Below.alloc ?_ (by first | omega | (simp; done) | (simp <;> omega)) _))⟩

set_option maxHeartbeats 2000000 in
theorem validFill_any (f : ByteArray) (al si : Int) (alt ze : Bool) (wi gr pr : Int) (t : ByteArray) (w : World) :
    Calls Tryd.prog 39 #[.agg #[.string f, .int .i64 al, .int .i64 si, .bool alt, .bool ze, .int .i64 wi, .int .i64 gr, .int .i64 pr, .string t]] w fun r w' => r = .returned (.bool (okFill f al)) ∧ Below w.heap.size w w' := by
  rcases bytes_cases f with rfl | ⟨b, rfl⟩ | h
  · go_enter Tryd.func39, Tryd.ntmps39
    go_wp2
    go_ret
    exact ⟨rfl, (by repeat (first | with_reducible exact Below.refl _ _ | with_reducible assumption | with_reducible refine Below.setCell ?_ (by first | omega | (simp; done) | (simp <;> omega)) _ | with_reducible refine below_drewN ?_ _ | with_reducible refine Below.drew ?_ | with_reducible refine Below.alloc ?_ (by first | omega | (simp; done) | (simp <;> omega)) _))⟩
  · go_enter Tryd.func39, Tryd.ntmps39
    go_wp2_with (go_at_call 66; refine (isPrintable_one _ _).mono ?_; rintro r w1 ⟨rfl, rfl⟩)
    all_goals go_ret
    all_goals refine ⟨ret_bool ?_, (by repeat (first | with_reducible exact Below.refl _ _ | with_reducible assumption | with_reducible refine Below.setCell ?_ (by first | omega | (simp; done) | (simp <;> omega)) _ | with_reducible refine below_drewN ?_ _ | with_reducible refine Below.drew ?_ | with_reducible refine Below.alloc ?_ (by first | omega | (simp; done) | (simp <;> omega)) _))⟩
    all_goals first | (simp_all; done) | (simp_all [okFill]; done) | (simp_all [okByte]; done) | (simp_all [bne]; done) | (simp_all [okFill, okByte]; done) | (simp_all [okFill, bne]; done) | (simp_all [okByte, bne]; done) | (simp_all [okFill, okByte, bne]; done) | (exact hk.symm)
  · have hk : okFill f al = false := by
      obtain ⟨⟨l⟩⟩ := f
      match l, h with
      | _ :: _ :: _, _ => rfl
    have hne : f.toList.isEmpty = false := nonempty_list (by omega)
    go_enter Tryd.func39, Tryd.ntmps39
    go_wp2_with (go_at_call 66; refine (isPrintable_no _ (by omega) _).mono ?_; rintro r w1 ⟨rfl, rfl⟩)
    all_goals go_ret
    all_goals refine ⟨ret_bool ?_, (by repeat (first | with_reducible exact Below.refl _ _ | with_reducible assumption | with_reducible refine Below.setCell ?_ (by first | omega | (simp; done) | (simp <;> omega)) _ | with_reducible refine below_drewN ?_ _ | with_reducible refine Below.drew ?_ | with_reducible refine Below.alloc ?_ (by first | omega | (simp; done) | (simp <;> omega)) _))⟩
    all_goals first | (simp_all; done) | (simp_all [okFill]; done) | (simp_all [okByte]; done) | (simp_all [bne]; done) | (simp_all [okFill, okByte]; done) | (simp_all [okFill, bne]; done) | (simp_all [okByte, bne]; done) | (simp_all [okFill, okByte, bne]; done) | (exact hk.symm)

/-- a valid specification -/
def vSp (f : ByteArray) (al si wi gr pr : Int) (t : ByteArray) : Bool := inr al 0 4 && inr si 0 3 && inr gr 0 2 && inr wi 0 30 && inr pr (-1) 9 && okFill f al && okType t
set_option maxHeartbeats 4000000 in
theorem ValidSpec_any (f : ByteArray) (al si : Int) (alt ze : Bool) (wi gr pr : Int) (t : ByteArray) (w : World) :
    Calls Tryd.prog 16 #[.agg #[.string f, .int .i64 al, .int .i64 si, .bool alt, .bool ze, .int .i64 wi, .int .i64 gr, .int .i64 pr, .string t]] w fun r w' => r = .returned (.bool (vSp f al si wi gr pr t)) ∧ Below w.heap.size w w' := by
  have k1 := fun W => validFill_any f al si alt ze wi gr pr t W
  have k2 := fun W => validType_any f al si alt ze wi gr pr t W
  have hv : vSp f al si wi gr pr t = (inr al 0 4 && inr si 0 3 && inr gr 0 2 && inr wi 0 30 && inr pr (-1) 9 && okFill f al && okType t) := rfl
  rw [hv]
  clear hv
  have k3 := fun W => within_any al 0 4 W
  have k4 := fun W => within_any si 0 3 W
  have k5 := fun W => within_any gr 0 2 W
  have k6 := fun W => within_any wi 0 30 W
  have k7 := fun W => within_any pr (-1) 9 W
  generalize okFill f al = b1 at *
  generalize okType t = b2 at *
  generalize inr al 0 4 = b3 at *
  generalize inr si 0 3 = b4 at *
  generalize inr gr 0 2 = b5 at *
  generalize inr wi 0 30 = b6 at *
  generalize inr pr (-1) 9 = b7 at *
  have K1 := Lib.hid k1; have K2 := Lib.hid k2; have K3 := Lib.hid k3; have K4 := Lib.hid k4; have K5 := Lib.hid k5; have K6 := Lib.hid k6; have K7 := Lib.hid k7
  clear k1 k2 k3 k4 k5 k6 k7
  go_enter Tryd.func16, Tryd.ntmps16
  go_wp2_with (first | (go_at_call 38; (with_reducible refine Calls.mono (K3.out _) ?_); rintro r w1 ⟨rfl, rfl⟩) | (go_at_call 38; (with_reducible refine Calls.mono (K4.out _) ?_); rintro r w1 ⟨rfl, rfl⟩) | (go_at_call 38; (with_reducible refine Calls.mono (K5.out _) ?_); rintro r w1 ⟨rfl, rfl⟩) | (go_at_call 38; (with_reducible refine Calls.mono (K6.out _) ?_); rintro r w1 ⟨rfl, rfl⟩) | (go_at_call 38; (with_reducible refine Calls.mono (K7.out _) ?_); rintro r w1 ⟨rfl, rfl⟩) | (go_at_call 39; (with_reducible refine Calls.mono (K1.out _) ?_); rintro r w1 ⟨rfl, hb⟩; (first | (have hcc := fun o => hb.cell (p := ⟨w.heap.size, o, none⟩) (by simp)) | skip); have hz := hb.size; (try simp at hz); have hB : Below w.heap.size w w1 := (by refine Below.trans ?_ (hb.mono (by first | omega | (simp; done) | (simp <;> omega))); repeat (first | with_reducible exact Below.refl _ _ | with_reducible assumption | with_reducible refine Below.setCell ?_ (by first | omega | (simp; done) | (simp <;> omega)) _ | with_reducible refine below_drewN ?_ _ | with_reducible refine Below.drew ?_ | with_reducible refine Below.alloc ?_ (by first | omega | (simp; done) | (simp <;> omega)) _))) | (go_at_call 40; (with_reducible refine Calls.mono (K2.out _) ?_); rintro r w1 ⟨rfl, hb⟩;  have hz := hb.size; (try simp at hz); have hB : Below w.heap.size w w1 := (by refine Below.trans ?_ (hb.mono (by first | omega | (simp; done) | (simp <;> omega))); repeat (first | with_reducible exact Below.refl _ _ | with_reducible assumption | with_reducible refine Below.setCell ?_ (by first | omega | (simp; done) | (simp <;> omega)) _ | with_reducible refine below_drewN ?_ _ | with_reducible refine Below.drew ?_ | with_reducible refine Below.alloc ?_ (by first | omega | (simp; done) | (simp <;> omega)) _))))
  all_goals go_ret
  all_goals refine ⟨ret_bool ?_, (by repeat (first | with_reducible exact Below.refl _ _ | with_reducible assumption | with_reducible refine Below.setCell ?_ (by first | omega | (simp; done) | (simp <;> omega)) _ | with_reducible refine below_drewN ?_ _ | with_reducible refine Below.drew ?_ | with_reducible refine Below.alloc ?_ (by first | omega | (simp; done) | (simp <;> omega)) _))⟩
  all_goals simp_all
end Go.Proofs.YtbkdjldimmhbjaaDoor
