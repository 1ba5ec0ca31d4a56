import Derived.Test.YtbkdjldimmhbjaaDoorPS5
namespace Go.Proofs.YtbkdjldimmhbjaaDoor
open Go Go.RowKit
def eI (b : UInt8) : Int := (b.toNat : Int)
theorem ixI_e : ∀ ms b, b.toNat < 128 → ixI ms (eI b) = Lib.indexByte ms b := by
  intro ms b h
  unfold ixI eI
  rw [if_pos ⟨Int.natCast_nonneg _, by omega⟩, show ((b.toNat : Int)).toNat.toUInt8 = b by simp]
set_option maxRecDepth 100000 in
theorem enc_ascii {b : UInt8} (h : b.toNat < 128) : Utf8.encode (eI b) = ⟨#[b]⟩ := by
  have h0 : ((List.range 128).all fun n => (Utf8.encode (n : Int)).data.toList == [UInt8.ofNat n]) = true := by decide +kernel
  have h1 := eq_of_beq (List.all_eq_true.1 h0 b.toNat (List.mem_range.2 h))
  have h2 : UInt8.ofNat b.toNat = b := by simp
  rw [h2] at h1
  unfold eI
  generalize Utf8.encode ((b.toNat : Nat) : Int) = E at *
  apply ByteArray.ext
  exact Array.ext' h1
theorem spL_ascii {f : ByteArray} {al si wi gr pr : Int} {t : ByteArray} (alt ze : Bool) (V : VS f al si wi gr pr t) : ∀ b ∈ spL f.data.toList al si alt ze wi gr pr t.data.toList, b.toNat < 128 := by
  have H := (tls alt ze V).a3
  intro b hb
  rw [spL_t2, List.mem_append] at hb
  rcases hb with hb | hb
  · rcases okFill_cases V.fill with rfl | ⟨c, rfl⟩
    · cases hb
    · have hc : b = c := by simpa using hb
      subst hc
      have h1 : (!(al == 0) && okByte b && !(b == 123) && !(b == 125)) = true := V.fill
      simp only [Bool.and_eq_true] at h1
      have h2 := h1.1.1.2
      rw [okByte_nat] at h2
      simp at h2
      omega
  · unfold t2 at hb
    rw [List.mem_append] at hb
    rcases hb with hb | hb
    · have h2 : ((mk al4 al).all fun b => decide (b.toNat < 128)) = true := all_mk (by decide +kernel)
      simpa using List.all_eq_true.1 h2 b hb
    · have h2 := List.all_eq_true.1 H b hb
      simp only [Bool.and_eq_true, decide_eq_true_eq] at h2
      exact h2.2
set_option maxRecDepth 100000 in
/-- what is written is read -/
theorem ps_print {f : ByteArray} {al si wi gr pr : Int} {t : ByteArray} (alt ze : Bool) (hv : vSp f al si wi gr pr t = true) :
    psV (psG ixI (rnL ⟨(spL f.data.toList al si alt ze wi gr pr t.data.toList).toArray⟩)) ⟨(spL f.data.toList al si alt ze wi gr pr t.data.toList).toArray⟩ = .tuple #[.agg #[.string f, .int .i64 al, .int .i64 si, .bool alt, .bool ze, .int .i64 wi, .int .i64 gr, .int .i64 pr, .string t], .bool true] := by
  have V := vSp_open hv
  have hA := spL_ascii alt ze V
  have hr : rnL ⟨(spL f.data.toList al si alt ze wi gr pr t.data.toList).toArray⟩ = (spL f.data.toList al si alt ze wi gr pr t.data.toList).map eI := by
    unfold rnL
    rw [rnF_ascii _ hA _ 0 (by omega), List.drop_zero]
    rfl
  rw [hr, psG_print ixI_e alt ze V]
  have hf : fillS (f.data.toList.head?.map eI) = f := by
    rcases okFill_cases V.fill with rfl | ⟨c, rfl⟩
    · rfl
    · have h1 : (!(al == 0) && okByte c && !(c == 123) && !(c == 125)) = true := V.fill
      simp only [Bool.and_eq_true] at h1
      have h2 := h1.1.1.2
      rw [okByte_nat] at h2
      simp at h2
      have e1 : fillS ((⟨#[c]⟩ : ByteArray).data.toList.head?.map eI) = Utf8.encode (eI c) := rfl
      rw [e1, enc_ascii (by omega)]
  have ht : (⟨(mk types (tk ixI types (t.data.toList.map eI)).1).toArray⟩ : ByteArray) = t := by
    rcases okType_cases V.type with rfl | ⟨c, rfl⟩
    · rfl
    · have h1 : decide (0 ≤ Lib.indexByte types c) = true := V.type
      have h2 := types_in c (by simpa using h1)
      have h3 : (types.all fun b => mk types (tk ixI types [eI b]).1 == [b]) = true := by decide +kernel
      have h4 := eq_of_beq (List.all_eq_true.1 h3 c (by simpa using h2))
      show (⟨(mk types (tk ixI types [eI c]).1).toArray⟩ : ByteArray) = _
      rw [h4]
  unfold psV psOk psAgg
  dsimp only
  rw [hf, ht, hv]
  rw [show (stW true f al si alt ze wi gr pr t).data.toList == (⟨(spL f.data.toList al si alt ze wi gr pr t.data.toList).toArray⟩ : ByteArray).data.toList by show (spL f.data.toList al si alt ze wi gr pr t.data.toList == spL f.data.toList al si alt ze wi gr pr t.data.toList) = true; simp]
  rfl
end Go.Proofs.YtbkdjldimmhbjaaDoor
