/- Promise 43: proved for every input. No condition. -/
import Derived.Test.YtffdgpahbdmacaaT4
import Derived.Test.YtffdgpahbdmacaaTDF
import Derived.Test.YtffdgpahbdmacaaRC
namespace Go.Proofs.Ytffdgpahbdmacaa
open Go.ChangeShapes Go.WideShapes Go.ChangeAt Go.RowKit Go.Joins Go.ChangeMaps

theorem fmR_wide (f : ByteArray) (al : Int) (ze : Bool) (wi pr : Int) (x : ByteArray) (h : 0 ≤ wi) : wi ≤ (fmR f al ze wi pr x).size := by
  show wi ≤ (padL [] (cutX pr x).data.toList wi.toNat (fcB f ze) (alW al ze 2)).length
  have : wi.toNat ≤ (padL [] (cutX pr x).data.toList wi.toNat (fcB f ze) (alW al ze 2)).length := by
    unfold padL
    split
    · simp only [List.length_append, rep_len]; omega
    · split
      · simp only [List.length_append, rep_len]; omega
      · split
        · simp only [List.length_append, rep_len]; omega
        · simp only [List.length_append, rep_len]; omega
  omega
set_option maxRecDepth 100000 in
set_option maxHeartbeats 8000000 in
theorem FnFormatText_law (s : Option Addr) (len cap : Nat) (w : World) (hcode : CodeAt s len w.heap.size w) (hcap : len ≤ cap) :
    Calls Try.prog 5 #[.slice s len cap] w fun r w' => r = .returned (.bool true) ∧ Below w.heap.size w w' := by
  by_cases hl : 1048576 < len
  · go_enter Try.func5, Try.ntmps5
    go_wp2
    go_ret
    exact ⟨rfl, (by repeat (first | with_reducible exact Below.refl _ _ | with_reducible assumption | with_reducible refine Below.setCell ?_ (by first | omega | (simp; done) | (simp <;> omega)) _ | with_reducible refine below_drewN ?_ _ | with_reducible refine Below.drew ?_ | with_reducible refine Below.alloc ?_ (by first | omega | (simp; done) | (simp <;> omega)) _))⟩
  go_enter Try.func5, Try.ntmps5
  go_wp2_with (go_at_call 18; (with_reducible refine Calls.mono (DrawFormatText_any _ _ _ _ hcode hcap) ?_); rintro r w1 ⟨⟨f, al, si, alt, ze, wi, gr, pr, t, x, rfl, hx⟩, hB⟩; have hz := hB.size)
  have k1 := fun W => FormatText_any f al si alt ze wi gr pr t x (by omega) W
  have k2 := fun W => FormatTextS_any f al si alt ze wi gr pr t x (by omega) W
  have ks := fun W => SpecSuits_any f al si alt ze wi gr pr t 2 W
  have kv := fun W => mBn (ValidText_any x (by omega) W)
  have zs := C9.new w1 (.string f) (.int .i64 al) (.int .i64 si) (.bool alt) (.bool ze) (.int .i64 wi) (.int .i64 gr) (.int .i64 pr) (.string t) 24
  replace hB : Below w.heap.size w (w1.alloc (.cells #[.string f, .int .i64 al, .int .i64 si, .bool alt, .bool ze, .int .i64 wi, .int .i64 gr, .int .i64 pr, .string t] 24)) := hB.alloc (by omega) _
  have zz := zs
  obtain ⟨x0, x1, x2, x3, x4, x5, x6, x7, x8, xf, xl⟩ := zz
  cases hs : suitW (vSp f al si wi gr pr t) al si alt ze gr pr t 2
  · rw [hs] at k1 k2 ks
    rw [show fmW (false && vtB x) f al ze wi pr x = ⟨#[]⟩ from rfl] at k1 k2
    clear hs
    have K1 := Lib.hid k1; have K2 := Lib.hid k2; have KS := Lib.hid ks; have KV := Lib.hid kv
    clear k1 k2 ks kv
    go_wp2_with (first | (go_at_call 19; (with_reducible refine Calls.mono (K1.out _) ?_); rintro r w2 ⟨rfl, hb⟩; replace hB := hB.trans (hb.mono hB.size); replace zs := zs.carry hb; have zz := zs; obtain ⟨x0, x1, x2, x3, x4, x5, x6, x7, x8, xf, xl⟩ := zz) | (go_at_call 20; (with_reducible refine Calls.mono (K2.out _) ?_); rintro r w2 ⟨rfl, hb⟩; replace hB := hB.trans (hb.mono hB.size); replace zs := zs.carry hb; have zz := zs; obtain ⟨x0, x1, x2, x3, x4, x5, x6, x7, x8, xf, xl⟩ := zz) | (go_at_call 11; (with_reducible refine Calls.mono (KS.out _) ?_); rintro r w2 ⟨rfl, hb⟩; replace hB := hB.trans (hb.mono hB.size); replace zs := zs.carry hb; have zz := zs; obtain ⟨x0, x1, x2, x3, x4, x5, x6, x7, x8, xf, xl⟩ := zz) | (go_at_call 21; (with_reducible refine Calls.mono (KV.out _) ?_); rintro r w2 ⟨rfl, hb⟩; replace hB := hB.trans (hb.mono hB.size); replace zs := zs.carry hb; have zz := zs; obtain ⟨x0, x1, x2, x3, x4, x5, x6, x7, x8, xf, xl⟩ := zz))
    all_goals go_ret
    all_goals exact ⟨rfl, hB⟩
  · cases hv : vtB x
    · rw [hs, hv] at k1 k2
      rw [hs] at ks
      rw [hv] at kv
      rw [show fmW (true && false) f al ze wi pr x = ⟨#[]⟩ from rfl] at k1 k2
      clear hs hv
      have K1 := Lib.hid k1; have K2 := Lib.hid k2; have KS := Lib.hid ks; have KV := Lib.hid kv
      clear k1 k2 ks kv
      go_wp2_with (first | (go_at_call 19; (with_reducible refine Calls.mono (K1.out _) ?_); rintro r w2 ⟨rfl, hb⟩; replace hB := hB.trans (hb.mono hB.size); replace zs := zs.carry hb; have zz := zs; obtain ⟨x0, x1, x2, x3, x4, x5, x6, x7, x8, xf, xl⟩ := zz) | (go_at_call 20; (with_reducible refine Calls.mono (K2.out _) ?_); rintro r w2 ⟨rfl, hb⟩; replace hB := hB.trans (hb.mono hB.size); replace zs := zs.carry hb; have zz := zs; obtain ⟨x0, x1, x2, x3, x4, x5, x6, x7, x8, xf, xl⟩ := zz) | (go_at_call 11; (with_reducible refine Calls.mono (KS.out _) ?_); rintro r w2 ⟨rfl, hb⟩; replace hB := hB.trans (hb.mono hB.size); replace zs := zs.carry hb; have zz := zs; obtain ⟨x0, x1, x2, x3, x4, x5, x6, x7, x8, xf, xl⟩ := zz) | (go_at_call 21; (with_reducible refine Calls.mono (KV.out _) ?_); rintro r w2 ⟨rfl, hb⟩; replace hB := hB.trans (hb.mono hB.size); replace zs := zs.carry hb; have zz := zs; obtain ⟨x0, x1, x2, x3, x4, x5, x6, x7, x8, xf, xl⟩ := zz))
      all_goals go_ret
      all_goals exact ⟨rfl, hB⟩
    · have hs' := hs
      unfold suitW at hs'
      simp only [Bool.and_eq_true] at hs'
      have V := vSp_open hs'.1
      obtain ⟨hp, ha⟩ := pad_ok (alt := alt) hs'.1 hs'.2 hv
      have kp := fun W => PadText_any (cutX pr x) wi ⟨#[fcB f ze]⟩ (alW al ze 2) (by have := vtB_size (cutX_ok hv pr); omega) W
      rw [hp] at kp
      have kf := fun W => FillFor_any f al si alt ze wi gr pr t W
      have ka := fun W => AlignFor_any f al si alt ze wi gr pr t 2 W
      rw [hs'.1, fill_one V.fill] at kf
      rw [hs, show alF true al ze 2 = alW al ze 2 from rfl] at ka
      rw [hs, hv, show fmW (true && true) f al ze wi pr x = fmR f al ze wi pr x from rfl] at k1 k2
      rw [hs] at ks
      rw [hv] at kv
      have hwd := fmR_wide f al ze wi pr x V.wi0
      have v4 := V.pr0; have v5 := V.pr9
      generalize fmR f al ze wi pr x = R at *
      generalize alW al ze 2 = a at *
      generalize fcB f ze = c at *
      have j1 : ¬ (R.size : Int) < wi := by omega
      have hRR : (R.toList == R.toList) = true := by simp
      have hRn : (R.toList != R.toList) = false := by simp
      clear hp hs' V hs hv
      by_cases hc : 0 ≤ pr
      · obtain ⟨p, rfl⟩ := Int.eq_ofNat_of_zero_le hc
        by_cases hpx : p ≤ x.size
        · rw [show cutX (p : Nat) x = x.extract 0 p by unfold cutX; rw [if_pos ⟨by omega, by omega⟩]; rfl] at kp
          have i1 : min (p : Int) (x.size : Int) = p := by omega
          have i2 : (p : Int) ≤ x.size := by omega
          have K1 := Lib.hid k1; have K2 := Lib.hid k2; have KS := Lib.hid ks; have KV := Lib.hid kv; have KF := Lib.hid kf; have KA := Lib.hid ka; have KP := Lib.hid kp
          clear k1 k2 ks kv kf ka kp
          go_wp2_with (first | (go_at_call 19; (with_reducible refine Calls.mono (K1.out _) ?_); rintro r w2 ⟨rfl, hb⟩; replace hB := hB.trans (hb.mono hB.size); replace zs := zs.carry hb; have zz := zs; obtain ⟨x0, x1, x2, x3, x4, x5, x6, x7, x8, xf, xl⟩ := zz) | (go_at_call 20; (with_reducible refine Calls.mono (K2.out _) ?_); rintro r w2 ⟨rfl, hb⟩; replace hB := hB.trans (hb.mono hB.size); replace zs := zs.carry hb; have zz := zs; obtain ⟨x0, x1, x2, x3, x4, x5, x6, x7, x8, xf, xl⟩ := zz) | (go_at_call 11; (with_reducible refine Calls.mono (KS.out _) ?_); rintro r w2 ⟨rfl, hb⟩; replace hB := hB.trans (hb.mono hB.size); replace zs := zs.carry hb; have zz := zs; obtain ⟨x0, x1, x2, x3, x4, x5, x6, x7, x8, xf, xl⟩ := zz) | (go_at_call 21; (with_reducible refine Calls.mono (KV.out _) ?_); rintro r w2 ⟨rfl, hb⟩; replace hB := hB.trans (hb.mono hB.size); replace zs := zs.carry hb; have zz := zs; obtain ⟨x0, x1, x2, x3, x4, x5, x6, x7, x8, xf, xl⟩ := zz))
          obtain ⟨szs0, szs1, szs2, szs3, szs4, szs5, szs6, szs7, szs8⟩ := C9.since zs
          refine wp_region_since (by kernel_rfl) (by kernel_rfl) ?_
          repeat (quiet_step (first | (go_at_call 16; with_reducible exact Calls.since_of (KF.out _)) | (go_at_call 23; with_reducible exact Calls.since_of (KA.out _)) | (go_at_call 22; with_reducible exact Calls.since_of (KP.out _))))
          refine wpQuiet_nil ?_
          intro w_ hw_
          obtain ⟨⟨w1, hb⟩, hw2⟩ := hw_
          have hw3 : w1 = w_ := hw2.symm
          clear hw2
          subst hw3
          clear szs0 szs1 szs2 szs3 szs4 szs5 szs6 szs7 szs8
          replace hB := hB.trans (hb.mono hB.size)
          have hz := hb.size
          replace zs := C9.carry zs hb
          have zz := zs
          obtain ⟨x0, x1, x2, x3, x4, x5, x6, x7, x8, x9, xl⟩ := zz
          go_wp2
          all_goals go_ret
          all_goals exact ⟨rfl, hB⟩
        · rw [show cutX (p : Nat) x = x by unfold cutX; rw [if_neg (by omega)]] at kp
          have i1 : min (p : Int) (x.size : Int) = x.size := by omega
          have i3 : x.extract 0 x.size = x := by simp
          have K1 := Lib.hid k1; have K2 := Lib.hid k2; have KS := Lib.hid ks; have KV := Lib.hid kv; have KF := Lib.hid kf; have KA := Lib.hid ka; have KP := Lib.hid kp
          clear k1 k2 ks kv kf ka kp
          go_wp2_with (first | (go_at_call 19; (with_reducible refine Calls.mono (K1.out _) ?_); rintro r w2 ⟨rfl, hb⟩; replace hB := hB.trans (hb.mono hB.size); replace zs := zs.carry hb; have zz := zs; obtain ⟨x0, x1, x2, x3, x4, x5, x6, x7, x8, xf, xl⟩ := zz) | (go_at_call 20; (with_reducible refine Calls.mono (K2.out _) ?_); rintro r w2 ⟨rfl, hb⟩; replace hB := hB.trans (hb.mono hB.size); replace zs := zs.carry hb; have zz := zs; obtain ⟨x0, x1, x2, x3, x4, x5, x6, x7, x8, xf, xl⟩ := zz) | (go_at_call 11; (with_reducible refine Calls.mono (KS.out _) ?_); rintro r w2 ⟨rfl, hb⟩; replace hB := hB.trans (hb.mono hB.size); replace zs := zs.carry hb; have zz := zs; obtain ⟨x0, x1, x2, x3, x4, x5, x6, x7, x8, xf, xl⟩ := zz) | (go_at_call 21; (with_reducible refine Calls.mono (KV.out _) ?_); rintro r w2 ⟨rfl, hb⟩; replace hB := hB.trans (hb.mono hB.size); replace zs := zs.carry hb; have zz := zs; obtain ⟨x0, x1, x2, x3, x4, x5, x6, x7, x8, xf, xl⟩ := zz))
          obtain ⟨szs0, szs1, szs2, szs3, szs4, szs5, szs6, szs7, szs8⟩ := C9.since zs
          refine wp_region_since (by kernel_rfl) (by kernel_rfl) ?_
          repeat (quiet_step (first | (go_at_call 16; with_reducible exact Calls.since_of (KF.out _)) | (go_at_call 23; with_reducible exact Calls.since_of (KA.out _)) | (go_at_call 22; with_reducible exact Calls.since_of (KP.out _))))
          refine wpQuiet_nil ?_
          intro w_ hw_
          obtain ⟨⟨w1, hb⟩, hw2⟩ := hw_
          have hw3 : w1 = w_ := hw2.symm
          clear hw2
          subst hw3
          clear szs0 szs1 szs2 szs3 szs4 szs5 szs6 szs7 szs8
          replace hB := hB.trans (hb.mono hB.size)
          have hz := hb.size
          replace zs := C9.carry zs hb
          have zz := zs
          obtain ⟨x0, x1, x2, x3, x4, x5, x6, x7, x8, x9, xl⟩ := zz
          go_wp2
          all_goals go_ret
          all_goals exact ⟨rfl, hB⟩
      · rw [show cutX pr x = x by unfold cutX; rw [if_neg (by omega)]] at kp
        have i1 : pr < 0 := by omega
        have K1 := Lib.hid k1; have K2 := Lib.hid k2; have KS := Lib.hid ks; have KV := Lib.hid kv; have KF := Lib.hid kf; have KA := Lib.hid ka; have KP := Lib.hid kp
        clear k1 k2 ks kv kf ka kp
        go_wp2_with (first | (go_at_call 19; (with_reducible refine Calls.mono (K1.out _) ?_); rintro r w2 ⟨rfl, hb⟩; replace hB := hB.trans (hb.mono hB.size); replace zs := zs.carry hb; have zz := zs; obtain ⟨x0, x1, x2, x3, x4, x5, x6, x7, x8, xf, xl⟩ := zz) | (go_at_call 20; (with_reducible refine Calls.mono (K2.out _) ?_); rintro r w2 ⟨rfl, hb⟩; replace hB := hB.trans (hb.mono hB.size); replace zs := zs.carry hb; have zz := zs; obtain ⟨x0, x1, x2, x3, x4, x5, x6, x7, x8, xf, xl⟩ := zz) | (go_at_call 11; (with_reducible refine Calls.mono (KS.out _) ?_); rintro r w2 ⟨rfl, hb⟩; replace hB := hB.trans (hb.mono hB.size); replace zs := zs.carry hb; have zz := zs; obtain ⟨x0, x1, x2, x3, x4, x5, x6, x7, x8, xf, xl⟩ := zz) | (go_at_call 21; (with_reducible refine Calls.mono (KV.out _) ?_); rintro r w2 ⟨rfl, hb⟩; replace hB := hB.trans (hb.mono hB.size); replace zs := zs.carry hb; have zz := zs; obtain ⟨x0, x1, x2, x3, x4, x5, x6, x7, x8, xf, xl⟩ := zz))
        obtain ⟨szs0, szs1, szs2, szs3, szs4, szs5, szs6, szs7, szs8⟩ := C9.since zs
        refine wp_region_since (by kernel_rfl) (by kernel_rfl) ?_
        repeat (quiet_step (first | (go_at_call 16; with_reducible exact Calls.since_of (KF.out _)) | (go_at_call 23; with_reducible exact Calls.since_of (KA.out _)) | (go_at_call 22; with_reducible exact Calls.since_of (KP.out _))))
        refine wpQuiet_nil ?_
        intro w_ hw_
        obtain ⟨⟨w1, hb⟩, hw2⟩ := hw_
        have hw3 : w1 = w_ := hw2.symm
        clear hw2
        subst hw3
        clear szs0 szs1 szs2 szs3 szs4 szs5 szs6 szs7 szs8
        replace hB := hB.trans (hb.mono hB.size)
        have hz := hb.size
        replace zs := C9.carry zs hb
        have zz := zs
        obtain ⟨x0, x1, x2, x3, x4, x5, x6, x7, x8, x9, xl⟩ := zz
        go_wp2
        all_goals go_ret
        all_goals exact ⟨rfl, hB⟩

set_option maxRecDepth 100000 in
theorem FnFormatText_lifted (os : Os) (started : os.Started) (H : Type) (enc : TypeId × Value → H) :
    ReturnsInHanded {} Try.checked os 5 .any (Rows.fnFormatTextSpec.pre6 enc Try.prog Try.f5 Rows.fnFormatTextRow.domain false) (Rows.fnFormatTextSpec.post enc Try.prog Try.f5 false true false false) := by
  refine returnsInHanded_of_change (C := Try.checked) Try.own started (by kernel_rfl) Try.func5
    (ChangeSpec.witness6 (enc := enc) (C := Try.checked) false ⟨#[], #[.slice none 0 0], []⟩ 8 (by kernel_rfl) (by kernel_rfl) (by kernel_rfl) (by kernel_rfl)) ?_
  intro W base args ds gs before hval0 hW hcnd _
  have hval : ∀ (j : Nat) t v, Try.f5.params[j]? = some t → args[j]? = some v → Value.okWide Try.prog W .any base t v := hval0
  have hW' := hW
  obtain ⟨p, q, hA0, hV, rfl, hfz, hnd⟩ := hW
  have hA : DataW.TrodAll enc Try.prog W 0 (fun _ => true) true Try.f5.params.toList args.toList ds p := hA0
  rw [Try.params5] at hA hval
  obtain ⟨v0, d0, rfl, rfl, h0⟩ := trodAll_one hA
  obtain ⟨rfl, rfl⟩ := trodVars_none hV
  obtain ⟨s, len, cap, rfl, hcap, hcode⟩ := open_code (hval 0 22 v0 rfl rfl) h0
  clear hA0 hval0
  have hlt := fun x hx => hW'.lt x hx
  refine (FnFormatText_law s len cap W hcode hcap).mono fun e_ W' ⟨he, hb⟩ => ?_
  subst he
  exact ⟨_, rfl, post_of_below (pa := p) (pv := []) hW' (fun _ _ _ => trodAll_mk1 (shut_bool Try.underlying4 true)) (fun sp hsp => trodAll_mk1 (code_back h0 hb (fun x hx => hlt x (by simp [hx])) (fun x hx => hsp x (by simp [hx])))) (fun _ _ => rfl) (by simp) hb (ok_one (by kernel_rfl) rfl (okWide_bool_mk Try.underlying4 true))⟩

theorem FnFormatText_holds : Rows.FnFormatTextSaid :=
  OpenClaim.holds_of_wide 5 Try.f5 rfl rfl rfl rfl rfl rfl rfl ⟨rfl, rfl, rfl, rfl, rfl⟩ rfl rfl rfl rfl rfl (by kernel_rfl) Try.func5 (by kernel_rfl)
    (of_decide_eq_true (by kernel_rfl)) (by unfold Func.isWrapper; first | (rw [if_pos (by decide +kernel)]; kernel_rfl) | (rw [if_neg (by decide +kernel)]; exact ⟨rfl, rfl⟩))
    (fun os started H enc _ => FnFormatText_lifted os started H enc)
end Go.Proofs.Ytffdgpahbdmacaa
